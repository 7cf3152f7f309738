import Derived.Test.YtppdcphfphcbbabX3
import Derived.Test.YtppdcphfphcbbabV2
import Derived.Test.YtppdcphfphcbbabV3
import Derived.Test.YtppdcphfphcbbabV1
namespace Go.Proofs.Ytppdcphfphcbbab
open Go.RowKit Go.Sort Go.Deep

/-- A list of bytes' slices that grows, each made of a text. -/
def AL (W : World) (B k : Nat) (v : Value) (S : Nat → ByteArray) : Prop :=
  (k = 0 ∧ v = .slice none 0 0) ∨ ∃ g cap vs cur, v = .slice (some ⟨g, 0, none⟩) k cap ∧ vs.length = k ∧ 0 < k ∧ B ≤ g ∧ ListAt W g cap vs cur ∧ ∀ j, j < k → ∃ gx c, vs[j]! = .slice (some ⟨gx, 0, none⟩) (S j).size c ∧ (S j).size ≤ c ∧ gx ≠ g ∧ gx < W.heap.size ∧ Holds encB W gx 0 (S j).data

theorem AL.below {W w1 : World} {B k : Nat} {v : Value} {S : Nat → ByteArray} (h : AL W B k v S) (hb : Below W.heap.size W w1) : AL w1 B k v S := by
  rcases h with h | ⟨g, cap, vs, cur, h1, h2, h3, h4, h5, h6⟩
  · exact Or.inl h
  · refine Or.inr ⟨g, cap, vs, cur, h1, h2, h3, h4, h5.below hb, fun j hj => ?_⟩
    obtain ⟨gx, c, e1, e2, e3, e4, e5⟩ := h6 j hj
    exact ⟨gx, c, e1, e2, e3, Nat.lt_of_lt_of_le e4 hb.size, Holds.below e5 hb e4⟩

theorem Holds.other0 {W w1 : World} {b o m g : Nat} {T : Bs} (h : Holds encB W g 0 T) (k : Only b o m W w1) (hne : g ≠ b) : Holds encB w1 g 0 T := by
  by_cases h0 : 0 < T.size
  · exact Holds.other h k hne h0
  · exact fun j hj => absurd hj (by omega)

theorem AL.push {wr W : World} {B k cap : Nat} {v : Value} {s : ByteArray} {S : Nat → ByteArray} (h : AL wr B k v S) (hB : B ≤ wr.heap.size) (hk : k ≤ 1048576) (hb : Below wr.heap.size wr W) (hlt : wr.heap.size < W.heap.size) (hc : s.size ≤ cap) (hH : Holds encB W wr.heap.size 0 s.data) (hs : s = S k) :
    ∃ v' w', (Builtin.append_ #[46, 46] 46 #[v, .slice (some ⟨W.heap.size, 0, none⟩) 1 1]).run Try.prog (W.alloc (.cells #[.slice (some ⟨wr.heap.size, 0, none⟩) s.size cap] 23)) = .ok v' w' ∧ AL w' B (k + 1) v' S ∧ Below B wr w' := by
  have hr : (W.alloc (.cells #[.slice (some ⟨wr.heap.size, 0, none⟩) s.size cap] 23)).cell? ⟨W.heap.size, 0, none⟩ = some (.slice (some ⟨wr.heap.size, 0, none⟩) s.size cap) := by simp
  have hb0 : Below W.heap.size W (W.alloc (.cells #[.slice (some ⟨wr.heap.size, 0, none⟩) s.size cap] 23)) := (Below.refl _ _).alloc (Nat.le_refl _) _
  have hs0 : (W.alloc (.cells #[.slice (some ⟨wr.heap.size, 0, none⟩) s.size cap] 23)).heap.size = W.heap.size + 1 := by simp
  have hx1 : (Value.slice (some ⟨wr.heap.size, 0, none⟩) s.size cap).oneCell' = true := rfl
  have hb1 : Below wr.heap.size wr (W.alloc (.cells #[.slice (some ⟨wr.heap.size, 0, none⟩) s.size cap] 23)) := hb.trans (hb0.mono (by omega))
  have hH1 := Holds.below hH hb0 hlt
  rcases h with ⟨rfl, rfl⟩ | ⟨g, cp, vs, cur, rfl, h2, h3, h4, h5, h6⟩
  · obtain ⟨cap', cur', w', hap, hL, hb2⟩ := append_firstL slice46 info23 rfl hr hx1
    refine ⟨_, w', hap, Or.inr ⟨_, cap', _, cur', rfl, rfl, by omega, by omega, hL, fun j hj => ?_⟩, (hb1.mono hB).trans (hb2.mono (by omega))⟩
    have hj0 : j = 0 := by omega
    subst hj0
    have := hb2.size
    exact ⟨wr.heap.size, cap, by rw [← hs]; rfl, by rw [← hs]; exact hc, by omega, by omega, by rw [← hs]; exact Holds.below hH1 hb2 (by omega)⟩
  · have hg := h5.lt
    have h5' := h5.below hb1
    subst h2
    obtain ⟨g', cap', cur', w', hap, hL, hO, hg'⟩ := append_valL slice46 info23 rfl h5' hr hx1 hk
    have hsz := hO.size
    refine ⟨_, w', hap, Or.inr ⟨g', cap', _, cur', rfl, by rw [List.length_append]; rfl, by omega, by omega, hL, fun j hj => ?_⟩, (hb1.mono hB).trans (hO.below (by omega) h4)⟩
    by_cases hj1 : j = vs.length
    · subst hj1
      rw [val_last, ← hs]
      exact ⟨wr.heap.size, cap, rfl, hc, by omega, by omega, Holds.other0 hH1 hO (by omega)⟩
    · obtain ⟨gy, d, e1, e2, e3, e4, e5⟩ := h6 j (by omega)
      rw [val_front _ _ _ (by omega)]
      exact ⟨gy, d, e1, e2, by omega, by omega, Holds.other0 (Holds.below e5 hb1 e4) hO e3⟩

theorem AL.args {W : World} {B k : Nat} {v : Value} {S : Nat → ByteArray} (h : AL W B k v S) : ∃ q c, v = .slice q k c ∧ Args W q k (fun j => (S j).data) := by
  rcases h with ⟨h0, h1⟩ | ⟨g, cap, vs, cur, h1, h2, h3, h4, h5, h6⟩
  · exact ⟨none, 0, by rw [h1, h0], fun h => absurd h (by omega)⟩
  · refine ⟨_, cap, h1, fun _ => ⟨g, rfl, h5.lt, fun j hj => ?_⟩⟩
    obtain ⟨gx, c, e1, e2, e3, e4, e5⟩ := h6 j hj
    exact ⟨_, h5.cell (by omega), by rw [e1]; exact ⟨_, _, _, rfl, rfl, fun h => ⟨gx, 0, rfl, by omega, e4, e5⟩⟩⟩

/-- What Powers answered. -/
def PAns (W : World) (P : Nat) (s : ByteArray) (n : Int) (B : Nat) (q : Option Addr) (l c : Nat) (ep : Int) : Prop :=
  (IsNum P s.data ∧ ep = 0 ∧ ∃ kl : Nat, q = some ⟨kl, 0, none⟩ ∧ n = (l : Int) ∧ c = l ∧ l ≤ 256 ∧ B ≤ kl ∧ Shelf W kl l l (fun j => beV s.data.toList ^ j % P)) ∨
  (l = 0 ∧ (((n < 0 ∨ 256 < n) ∧ ep = 1) ∨ ((0 ≤ n ∧ n ≤ 256) ∧ ¬ IsNum P s.data ∧ ep = 3)))
theorem PAns.call {W w1 : World} {P B l c : Nat} {s : ByteArray} {n ep : Int} {q : Option Addr} (h : PAns W P s n B q l c ep) (hb : Below W.heap.size W w1) : PAns w1 P s n B q l c ep := by
  rcases h with ⟨h1, h2, kl, h3, h4, h5, h6, h7, h8⟩ | h
  · exact Or.inl ⟨h1, h2, kl, h3, h4, h5, h6, h7, h8.call hb⟩
  · exact Or.inr h
theorem Powers_all (k n : Int) (g0 g1 g2 P : Nat) (va : Value) (s : ByteArray) (hG : Gap g0 g1 g2 P) (w : World) (hp : PrimeOf k g0 g1 g2) (ha : Arg w va s.data) :
    Calls Try.prog 25 #[.int .i64 k, va, .int .i64 n] w (Ret fun e w' => Below w.heap.size w w' ∧ ∃ (q : Option Addr) (l c : Nat) (ep : Int), e = .tuple #[.slice q l c, .int .i64 ep] ∧ PAns w' P s n w.heap.size q l c ep) := by
  by_cases hn : n < 0 ∨ 256 < n
  · refine (Powers_long k g0 g1 g2 n va w hn hp).mono ?_
    rintro e w1 ⟨v, rfl, hb, rfl⟩
    exact ⟨_, rfl, hb, none, 0, 0, 1, rfl, Or.inr ⟨rfl, Or.inl ⟨hn, rfl⟩⟩⟩
  · obtain ⟨m, rfl⟩ : ∃ m : Nat, n = (m : Int) := ⟨n.toNat, by omega⟩
    have hm : m ≤ 256 := by omega
    refine (Powers_any k g0 g1 g2 P m va s.data hG w hm hp ha).mono ?_
    rintro e w1 ⟨v, rfl, hb, ⟨h1, kl, h2, rfl, h3⟩ | ⟨h1, rfl⟩⟩
    · exact ⟨_, rfl, hb, _, m, m, 0, rfl, Or.inl ⟨h1, rfl, kl, rfl, rfl, rfl, hm, h2, h3⟩⟩
    · exact ⟨_, rfl, hb, none, 0, 0, 3, rfl, Or.inr ⟨rfl, Or.inr ⟨⟨by omega, by omega⟩, h1, rfl⟩⟩⟩
theorem lpowers_all (p0 p1 p2 p3 c0 c1 c2 c3 P : Nat) (x : ByteArray) (hR : RefP p0 p1 p2 p3 c0 c1 c2 c3 P) (n ep : Int) (B l c : Nat) (q : Option Addr) (w : World) (h : PAns w P x n B q l c ep) :
    Calls Try.prog 27 #[.agg #[.int .u64 (p0 : Int), .int .u64 (p1 : Int), .int .u64 (p2 : Int), .int .u64 (p3 : Int), .int .u64 (c0 : Int), .int .u64 (c1 : Int), .int .u64 (c2 : Int), .int .u64 (c3 : Int)], .string x, .int .i64 n, .slice q l c, .int .i64 ep] w (Ret fun e w' => Below w.heap.size w w' ∧ e = .bool true) := by
  rcases h with ⟨h1, rfl, kl, rfl, rfl, rfl, h6, -, h8⟩ | ⟨rfl, h⟩
  · exact lpowers_ok p0 p1 p2 p3 c0 c1 c2 c3 P x hR _ kl h6 w h1 h8
  · exact lpowers_err p0 p1 p2 p3 c0 c1 c2 c3 P x hR n ep c q w h
theorem Apart_all {W : World} {P B l c : Nat} {s : ByteArray} {n ep : Int} {q : Option Addr} (h : PAns W P s n B q l c ep) (hB : B ≤ W.heap.size) :
    Calls Try.prog 29 #[.slice q l c] W (Ret fun e w' => Below B W w' ∧ e = .bool true) := by
  rcases h with ⟨h1, rfl, kl, rfl, rfl, rfl, h6, h7, hk, hf, hlt, G, hG, hinj⟩ | ⟨rfl, h⟩
  · refine Apart_any kl _ _ B _ G (fun j => bytesOf (beV s.data.toList ^ j % P)) W h6 (fun _ => ⟨rfl, hlt⟩) ⟨fun j hj => (hG j hj).1, fun j hj => (hG j hj).2.1.2, fun j hj => bytesOf_size _, fun j hj => ?_, fun j j' hj hj' e => ?_⟩ (fun j hj => ?_) hB
    · have := (hG j hj).2.2; omega
    · rcases Nat.lt_trichotomy j j' with h | h | h
      · have := hinj j j' hj' h; omega
      · exact h
      · have := hinj j' j hj h; omega
    · have := (hG j hj).2.2; omega
  · exact Apart_any 0 0 c B q (fun _ => 0) (fun _ => #[]) W (by omega) (fun h => absurd h (by omega)) ⟨fun j hj => absurd hj (by omega), fun j hj => absurd hj (by omega), fun j hj => absurd hj (by omega), fun j hj => absurd hj (by omega), fun j j' hj => absurd hj (by omega)⟩ (fun j hj => absurd hj (by omega)) hB

/-- What Dot answered, for lists of any length. -/
def EAns (W : World) (P n m : Nat) (S T : Nat → ByteArray) (q : Option Addr) (k c : Nat) (ep : Int) : Prop :=
  (n ≤ 256 ∧ m ≤ 256 ∧ DAns W P n m S T q k c ep) ∨ ((256 < n ∨ 256 < m) ∧ ep = 1 ∧ k = 0)
theorem EAns.call {W w1 : World} {P n m k c : Nat} {S T : Nat → ByteArray} {q : Option Addr} {ep : Int} (h : EAns W P n m S T q k c ep) (hb : Below W.heap.size W w1) : EAns w1 P n m S T q k c ep := by
  rcases h with ⟨h1, h2, h3⟩ | h
  · refine Or.inl ⟨h1, h2, ?_⟩
    rcases h3 with ⟨a, b, d, e, f⟩ | h3
    · exact Or.inl ⟨a, b, d, e, f.call hb⟩
    · exact Or.inr h3
  · exact Or.inr h
theorem Dot_all (k : Int) (g0 g1 g2 P n m ca cb : Nat) (qa qb : Option Addr) (S T : Nat → ByteArray) (hG : Gap g0 g1 g2 P) (w : World) (hp : PrimeOf k g0 g1 g2) (hA : Args w qa n (fun j => (S j).data)) (hB : Args w qb m (fun j => (T j).data)) :
    Calls Try.prog 26 #[.int .i64 k, .slice qa n ca, .slice qb m cb] w (Ret fun e w' => Below w.heap.size w w' ∧ ∃ (q : Option Addr) (l c : Nat) (ep : Int), e = .tuple #[.slice q l c, .int .i64 ep] ∧ EAns w' P n m S T q l c ep) := by
  by_cases hn : 256 < n ∨ 256 < m
  · refine (Dot_long k g0 g1 g2 n m ca cb qa qb w hn hp).mono ?_
    rintro e w1 ⟨v, rfl, hb, rfl⟩
    exact ⟨_, rfl, hb, none, 0, 0, 1, rfl, Or.inr ⟨hn, rfl, rfl⟩⟩
  · have h1 : n ≤ 256 := by omega
    have h2 : m ≤ 256 := by omega
    refine (Dot_any k g0 g1 g2 P n m ca cb qa qb _ _ hG w h1 h2 hp hA hB).mono ?_
    rintro e w1 ⟨v, rfl, hb, ⟨a, b, d, v, rfl, h⟩ | ⟨a, b, d, rfl⟩ | ⟨a, rfl⟩⟩
    · obtain ⟨g, x0, x1, x2, x3, rfl, y, z, t⟩ := h
      exact ⟨_, rfl, hb, _, _, _, 0, rfl, Or.inl ⟨h1, h2, Or.inl ⟨a, b, d, rfl, ⟨g, x0, x1, x2, x3, rfl, Nat.zero_le _, z, t⟩⟩⟩⟩
    · exact ⟨_, rfl, hb, none, 0, 0, 2, rfl, Or.inl ⟨h1, h2, Or.inr (Or.inl ⟨a, b, d, rfl, rfl⟩)⟩⟩
    · exact ⟨_, rfl, hb, none, 0, 0, 3, rfl, Or.inl ⟨h1, h2, Or.inr (Or.inr ⟨a, rfl, rfl⟩)⟩⟩
theorem ldot_all (n m cn cm k cd : Nat) (qn qm qd : Option Addr) (ep : Int) (p0 p1 p2 p3 c0 c1 c2 c3 P : Nat) (hR : RefP p0 p1 p2 p3 c0 c1 c2 c3 P) (S T : Nat → ByteArray) (w : World) (hn : n ≤ 300) (hm : m ≤ 300) (hS : Texts w qn n S) (hT : Texts w qm m T) (hA : EAns w P n m S T qd k cd ep) :
    Calls Try.prog 28 #[.agg #[.int .u64 (p0 : Int), .int .u64 (p1 : Int), .int .u64 (p2 : Int), .int .u64 (p3 : Int), .int .u64 (c0 : Int), .int .u64 (c1 : Int), .int .u64 (c2 : Int), .int .u64 (c3 : Int)], .slice qn n cn, .slice qm m cm, .slice qd k cd, .int .i64 ep] w (Ret fun e w' => Below w.heap.size w w' ∧ e = .bool true) := by
  rcases hA with ⟨h1, h2, h3⟩ | ⟨h1, rfl, rfl⟩
  · exact ldot_any n m cn cm k cd qn qm qd ep p0 p1 p2 p3 c0 c1 c2 c3 P hR S T w h1 h2 hS hT h3
  · exact ldot_long n m cn cm qn qm qd cd p0 p1 p2 p3 c0 c1 c2 c3 w h1 ⟨hn, hm⟩
theorem Texts.below {w w1 : World} {q : Option Addr} {n : Nat} {S : Nat → ByteArray} (h : Texts w q n S) (hb : Below w.heap.size w w1) : Texts w1 q n S := fun hn => by
  obtain ⟨gg, oo, h1, h2, h3⟩ := h hn
  exact ⟨gg, oo, h1, Nat.lt_of_lt_of_le h2 hb.size, fun j hj => by rw [hb.cell (p := ⟨gg, oo + j, none⟩) h2]; exact h3 j hj⟩
end Go.Proofs.Ytppdcphfphcbbab
