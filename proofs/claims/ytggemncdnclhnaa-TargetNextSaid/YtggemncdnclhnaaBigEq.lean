/- LAYER 3: numbers, compared. -/
import Derived.Test.YtggemncdnclhnaaBigPure3
import Derived.Test.YtggemncdnclhnaaArrEq
namespace Go.Proofs.Ytggemncdnclhnaa
open Go.RowKit
set_option linter.unusedVariables false
set_option linter.unusedSimpArgs false

theorem eqU (a b : Nat) (ha : a < top) (hb : b < top) (w : World) :
    (Op.equalIn 10000 24 (.agg #[.int .u64 (lim a 0 : Int), .int .u64 (lim a 1 : Int), .int .u64 (lim a 2 : Int), .int .u64 (lim a 3 : Int)]) (.agg #[.int .u64 (lim b 0 : Int), .int .u64 (lim b 1 : Int), .int .u64 (lim b 2 : Int), .int .u64 (lim b 3 : Int)])).run Try.prog w = .ok (decide (a = b)) w := by
  have h := eq_ints (P := Try.prog) 9998 24 22 4 .u64 Try.underlying24 Try.underlying22 Try.isAgg22 Try.sizeOf22
    [(lim a 0 : Int), (lim a 1 : Int), (lim a 2 : Int), (lim a 3 : Int)] [(lim b 0 : Int), (lim b 1 : Int), (lim b 2 : Int), (lim b 3 : Int)] rfl rfl w
  have e : decide ([(lim a 0 : Int), (lim a 1 : Int), (lim a 2 : Int), (lim a 3 : Int)] = [(lim b 0 : Int), (lim b 1 : Int), (lim b 2 : Int), (lim b 3 : Int)]) = decide (a = b) := by
    rw [Bool.eq_iff_iff]
    simp only [decide_eq_true_eq, List.cons.injEq, and_true]
    constructor
    · rintro ⟨h0, h1, h2, h3⟩
      exact lim_inj ha hb (by omega) (by omega) (by omega) (by omega)
    · rintro rfl
      exact ⟨rfl, rfl, rfl, rfl⟩
  rw [e] at h
  exact h
end Go.Proofs.Ytggemncdnclhnaa
