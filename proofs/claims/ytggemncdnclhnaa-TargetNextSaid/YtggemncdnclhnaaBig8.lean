/- CONTRACTS OF LAYER 3: Right, at any number of bits. -/
import Derived.Test.YtggemncdnclhnaaBig5
import Derived.Test.YtggemncdnclhnaaBig6
namespace Go.Proofs.Ytggemncdnclhnaa
open Go.RowKit
set_option linter.unusedVariables false
set_option linter.unusedSimpArgs false
set_option maxHeartbeats 1000000 in
theorem right_far (a n : Nat) (w : World) (hn : (n : Int) ≤ 9223372036854775807) (h : ¬ (n : Int) / 64 < 4) :
    Calls Try.prog 38 #[.agg #[.int .u64 (lim a 0 : Int), .int .u64 (lim a 1 : Int), .int .u64 (lim a 2 : Int), .int .u64 (lim a 3 : Int)], .int .i64 (n : Int)] w fun e w' => e = .returned (.agg #[.int .u64 0, .int .u64 0, .int .u64 0, .int .u64 0]) ∧ Nx w w' := by
  go_enter Try.func38, Try.ntmps38
  go_wp2
  go_loopw [8] (fun i wr => i = .int .i64 ((n : Int) / 64) ∧ wr = ((w.alloc (.cells #[.int .u64 (lim a 0 : Int), .int .u64 (lim a 1 : Int), .int .u64 (lim a 2 : Int), .int .u64 (lim a 3 : Int)] 24)).alloc (.cells #[.int .u64 0, .int .u64 0, .int .u64 0, .int .u64 0] 24)).alloc (.cells #[.int .u64 0, .int .u64 0, .int .u64 0, .int .u64 0] 24)) (fun i _ => 0)
  case atStart => exact ⟨rfl, rfl⟩
  case round =>
    obtain ⟨rfl, rfl⟩ := hrel
    go_wp2
    exact bodyPost_ret (v := .agg #[.int .u64 0, .int .u64 0, .int .u64 0, .int .u64 0]) (by simp [results, Try.results38, go_sem]) rfl ⟨rfl, by repeat (first | exact Nx.refl _ | apply Nx.drewN | apply Nx.alloc | refine Nx.setAt ?_ _ (by omega))⟩
set_option maxHeartbeats 1000000 in
theorem right_neg (a : Nat) (n : Int) (w : World) (hn : n < 0) :
    Calls Try.prog 38 #[.agg #[.int .u64 (lim a 0 : Int), .int .u64 (lim a 1 : Int), .int .u64 (lim a 2 : Int), .int .u64 (lim a 3 : Int)], .int .i64 n] w fun e w' => e = .returned (.agg #[.int .u64 (lim a 0 : Int), .int .u64 (lim a 1 : Int), .int .u64 (lim a 2 : Int), .int .u64 (lim a 3 : Int)]) ∧ Nx w w' := by
  go_enter Try.func38, Try.ntmps38
  go_wp2
  exact bodyPost_ret (v := .agg #[.int .u64 (lim a 0 : Int), .int .u64 (lim a 1 : Int), .int .u64 (lim a 2 : Int), .int .u64 (lim a 3 : Int)]) (by simp [results, Try.results38, go_sem]) rfl ⟨rfl, by repeat (first | exact Nx.refl _ | apply Nx.drewN | apply Nx.alloc | refine Nx.setAt ?_ _ (by omega))⟩

def rightN (a : Nat) (n : Int) : Nat := if n < 0 then a else a / 2 ^ n.toNat
theorem right_any (a : Nat) (n : Int) (w : World) (ha : a < top) (hn : n ≤ 9223372036854775807) :
    Calls Try.prog 38 #[.agg #[.int .u64 (lim a 0 : Int), .int .u64 (lim a 1 : Int), .int .u64 (lim a 2 : Int), .int .u64 (lim a 3 : Int)], .int .i64 n] w fun e w' => e = .returned (.agg #[.int .u64 (lim (rightN a n) 0 : Int), .int .u64 (lim (rightN a n) 1 : Int), .int .u64 (lim (rightN a n) 2 : Int), .int .u64 (lim (rightN a n) 3 : Int)]) ∧ Nx w w' := by
  unfold rightN
  by_cases h0 : n < 0
  · rw [if_pos h0]
    exact right_neg a n w h0
  · rw [if_neg h0]
    obtain ⟨m, rfl⟩ := Int.eq_ofNat_of_zero_le (show 0 ≤ n by omega)
    simp only [Int.toNat_natCast]
    by_cases h4 : (m : Int) / 64 < 4
    · obtain ⟨p, hp⟩ : ∃ p : Nat, (m : Int) % 64 = (p : Int) := ⟨m % 64, by omega⟩
      have hq : (m : Int) / 64 = 0 ∨ (m : Int) / 64 = 1 ∨ (m : Int) / 64 = 2 ∨ (m : Int) / 64 = 3 := by omega
      rcases hq with hq | hq | hq | hq
      · exact right_0 a m p _ w ha hn hq hp rfl
      · exact right_1 a m p _ w ha hn hq hp rfl
      · exact right_2 a m p _ w ha hn hq hp rfl
      · exact right_3 a m p _ w ha hn hq hp rfl
    · rw [shr_zero' a m 0 ha (by omega), shr_zero' a m 1 ha (by omega), shr_zero' a m 2 ha (by omega), shr_zero' a m 3 ha (by omega)]
      exact right_far a m w hn h4
end Go.Proofs.Ytggemncdnclhnaa
