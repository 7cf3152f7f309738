import Derived.Test.YtppdcphfphcbbabW1
import Derived.Test.YtppdcphfphcbbabN1
import Derived.Test.YtppdcphfphcbbabV1
namespace Go.Proofs.Ytppdcphfphcbbab
open Go.RowKit Go.Sort Go.Deep

theorem Reduce_nb {k : Int} {g0 g1 g2 P g cap : Nat} {s : ByteArray} (hG : Gap g0 g1 g2 P) (hp : PrimeOf k g0 g1 g2) (w : World) (hs : s.size ≤ 1024) (hc : s.size ≤ cap) (hg : g < w.heap.size) (hB : Holds encB w g 0 s.data) :
    Calls Try.prog 30 #[.int .i64 k, .slice (some ⟨g, 0, none⟩) s.size cap] w (Ret (Gives w (beV s.data.toList % P))) := by
  refine (Reduce_any k g0 g1 g2 P g 0 s.size cap s.data hG w rfl hs hc hg hB hp).mono ?_
  rintro e w' ⟨v, rfl, hb', v', rfl, h⟩
  obtain ⟨g, rfl, h4⟩ := At32.of h
  exact ⟨_, rfl, hb', g, rfl, h4⟩
end Go.Proofs.Ytppdcphfphcbbab
