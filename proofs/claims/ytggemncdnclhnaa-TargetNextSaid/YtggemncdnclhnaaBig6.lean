/- CONTRACTS OF LAYER 3: Left, at any number of bits. -/
import Derived.Test.YtggemncdnclhnaaBig4
namespace Go.Proofs.Ytggemncdnclhnaa
open Go.RowKit
set_option linter.unusedVariables false
set_option linter.unusedSimpArgs false

set_option maxHeartbeats 1000000 in
theorem left_far (a n : Nat) (w : World) (hn : (n : Int) ≤ 9223372036854775807) (h : ¬ (n : Int) / 64 < 4) :
    Calls Try.prog 36 #[.agg #[.int .u64 (lim a 0 : Int), .int .u64 (lim a 1 : Int), .int .u64 (lim a 2 : Int), .int .u64 (lim a 3 : Int)], .int .i64 (n : Int)] w fun e w' => e = .returned (.agg #[.int .u64 0, .int .u64 0, .int .u64 0, .int .u64 0]) ∧ Nx w w' := by
  go_enter Try.func36, Try.ntmps36
  go_wp2
  go_loopw [8] (fun i wr => i = .int .i64 ((n : Int) / 64) ∧ wr = ((w.alloc (.cells #[.int .u64 (lim a 0 : Int), .int .u64 (lim a 1 : Int), .int .u64 (lim a 2 : Int), .int .u64 (lim a 3 : Int)] 24)).alloc (.cells #[.int .u64 0, .int .u64 0, .int .u64 0, .int .u64 0] 24)).alloc (.cells #[.int .u64 0, .int .u64 0, .int .u64 0, .int .u64 0] 24)) (fun i _ => 0)
  case atStart => exact ⟨rfl, rfl⟩
  case round =>
    obtain ⟨rfl, rfl⟩ := hrel
    go_wp2
    exact bodyPost_ret (v := .agg #[.int .u64 0, .int .u64 0, .int .u64 0, .int .u64 0]) (by simp [results, Try.results36, go_sem]) rfl ⟨rfl, by repeat (first | exact Nx.refl _ | apply Nx.drewN | apply Nx.alloc | refine Nx.setAt ?_ _ (by omega))⟩
set_option maxHeartbeats 1000000 in
theorem left_neg (a : Nat) (n : Int) (w : World) (hn : n < 0) :
    Calls Try.prog 36 #[.agg #[.int .u64 (lim a 0 : Int), .int .u64 (lim a 1 : Int), .int .u64 (lim a 2 : Int), .int .u64 (lim a 3 : Int)], .int .i64 n] w fun e w' => e = .returned (.agg #[.int .u64 (lim a 0 : Int), .int .u64 (lim a 1 : Int), .int .u64 (lim a 2 : Int), .int .u64 (lim a 3 : Int)]) ∧ Nx w w' := by
  go_enter Try.func36, Try.ntmps36
  go_wp2
  exact bodyPost_ret (v := .agg #[.int .u64 (lim a 0 : Int), .int .u64 (lim a 1 : Int), .int .u64 (lim a 2 : Int), .int .u64 (lim a 3 : Int)]) (by simp [results, Try.results36, go_sem]) rfl ⟨rfl, by repeat (first | exact Nx.refl _ | apply Nx.drewN | apply Nx.alloc | refine Nx.setAt ?_ _ (by omega))⟩
/-- A number moved up, without what is above. -/
def leftN (a : Nat) (n : Int) : Nat := if n < 0 then a else a * 2 ^ n.toNat % top
theorem left_zero (a n : Nat) (h : 256 ≤ n) : a * 2 ^ n % top = 0 := by
  rw [top_eq, show n = 256 + (n - 256) by omega, Nat.pow_add, show a * (2 ^ 256 * 2 ^ (n - 256)) = 2 ^ 256 * (a * 2 ^ (n - 256)) by rw [Nat.mul_left_comm]]
  exact Nat.mul_mod_right _ _
theorem lim_nought : lim 0 0 = 0 ∧ lim 0 1 = 0 ∧ lim 0 2 = 0 ∧ lim 0 3 = 0 := by decide

theorem left_any (a : Nat) (n : Int) (w : World) (hn : n ≤ 9223372036854775807) :
    Calls Try.prog 36 #[.agg #[.int .u64 (lim a 0 : Int), .int .u64 (lim a 1 : Int), .int .u64 (lim a 2 : Int), .int .u64 (lim a 3 : Int)], .int .i64 n] w fun e w' => e = .returned (.agg #[.int .u64 (lim (leftN a n) 0 : Int), .int .u64 (lim (leftN a n) 1 : Int), .int .u64 (lim (leftN a n) 2 : Int), .int .u64 (lim (leftN a n) 3 : Int)]) ∧ Nx w w' := by
  unfold leftN
  by_cases h0 : n < 0
  · rw [if_pos h0]
    exact left_neg a n w h0
  · rw [if_neg h0]
    obtain ⟨m, rfl⟩ := Int.eq_ofNat_of_zero_le (show 0 ≤ n by omega)
    simp only [Int.toNat_natCast]
    obtain ⟨e0, e1, e2, e3⟩ := lim_mod (a * 2 ^ m)
    rw [e0, e1, e2, e3]
    by_cases h4 : (m : Int) / 64 < 4
    · obtain ⟨p, hp⟩ : ∃ p : Nat, (m : Int) % 64 = (p : Int) := ⟨m % 64, by omega⟩
      have hq : (m : Int) / 64 = 0 ∨ (m : Int) / 64 = 1 ∨ (m : Int) / 64 = 2 ∨ (m : Int) / 64 = 3 := by omega
      rcases hq with hq | hq | hq | hq
      · exact left_0 a m p _ w hn hq hp rfl
      · exact left_1 a m p _ w hn hq hp rfl
      · exact left_2 a m p _ w hn hq hp rfl
      · exact left_3 a m p _ w hn hq hp rfl
    · have hz := left_zero a m (by omega)
      rw [← e0, ← e1, ← e2, ← e3, hz]
      obtain ⟨z0, z1, z2, z3⟩ := lim_nought
      rw [z0, z1, z2, z3]
      exact left_far a m w hn h4
end Go.Proofs.Ytggemncdnclhnaa
