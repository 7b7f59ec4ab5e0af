/- PLAIN: numbers as bytes, the shortest, of our own. -/
import Derived.Test.YtbhoflmdhlchlaaCellPure
import Derived.Test.YtbhoflmdhlchlaaNums
namespace Go.Proofs.Ytbhoflmdhlchlaa
open Go Go.RowKit
set_option linter.unusedVariables false
set_option linter.unusedSimpArgs false

/-- Byte i of a number, with its sign going on above. -/
def byI (n : Int) (i : Nat) : UInt8 := UInt8.ofNat (n / 256 ^ i % 256).toNat
def loI (n : Int) (k : Nat) : List UInt8 := (List.range k).map (byI n)
theorem loI_length (n : Int) (k : Nat) : (loI n k).length = k := by simp [loI]
theorem loI_succ (n : Int) (k : Nat) : loI n (k + 1) = loI n k ++ [byI n k] := by simp [loI, List.range_succ]
/-- Is it one of k bytes? -/
def fits (n : Int) (k : Nat) : Bool := if k = 0 then n == 0 else decide (-(2 ^ (8 * k - 1) : Int) ≤ n ∧ n < 2 ^ (8 * k - 1))
/-- In how many bytes. -/
def szF (n : Int) : Nat → Nat → Nat
  | 0, k => k
  | f + 1, k => if fits n k = true then k else szF n f (k + 1)
def szI (n : Int) : Nat := szF n 8 0
def bytesI (n : Int) : List UInt8 := loI n (szI n)
theorem fits0 (n : Int) : fits n 0 = (n == 0) := rfl
theorem fits1 (n : Int) : fits n 1 = decide (-128 ≤ n ∧ n < 128) := rfl
theorem fits2 (n : Int) : fits n 2 = decide (-32768 ≤ n ∧ n < 32768) := rfl
theorem fits3 (n : Int) : fits n 3 = decide (-8388608 ≤ n ∧ n < 8388608) := rfl
theorem fits4 (n : Int) : fits n 4 = decide (-2147483648 ≤ n ∧ n < 2147483648) := rfl
theorem fits5 (n : Int) : fits n 5 = decide (-549755813888 ≤ n ∧ n < 549755813888) := rfl
theorem fits6 (n : Int) : fits n 6 = decide (-140737488355328 ≤ n ∧ n < 140737488355328) := rfl
theorem fits7 (n : Int) : fits n 7 = decide (-36028797018963968 ≤ n ∧ n < 36028797018963968) := rfl
theorem fits8 (n : Int) : fits n 8 = decide (-9223372036854775808 ≤ n ∧ n < 9223372036854775808) := rfl
theorem szF_spec (n : Int) : ∀ f k, (∃ j, k ≤ j ∧ j ≤ k + f ∧ szF n f k = j ∧ (∀ i, k ≤ i → i < j → fits n i = false) ∧ (j < k + f → fits n j = true))
  | 0, k => ⟨k, by omega, by omega, rfl, fun i h1 h2 => by omega, fun h => by omega⟩
  | f + 1, k => by
    unfold szF
    cases h : fits n k
    · obtain ⟨j, h1, h2, h3, h4, h5⟩ := szF_spec n f (k + 1)
      refine ⟨j, by omega, by omega, by rw [if_neg (by decide)]; exact h3, fun i hi hj => ?_, fun hj => h5 (by omega)⟩
      by_cases he : i = k
      · subst he; exact h
      · exact h4 i (by omega) hj
    · exact ⟨k, by omega, by omega, by rw [if_pos rfl], fun i h1 h2 => by omega, fun _ => h⟩
theorem szI_spec (n : Int) (hn : -9223372036854775808 ≤ n ∧ n ≤ 9223372036854775807) : szI n ≤ 8 ∧ fits n (szI n) = true ∧ ∀ i, i < szI n → fits n i = false := by
  obtain ⟨j, h1, h2, h3, h4, h5⟩ := szF_spec n 8 0
  unfold szI
  rw [h3]
  refine ⟨by omega, ?_, fun i hi => h4 i (by omega) hi⟩
  by_cases h8 : j = 8
  · subst h8; rw [fits8]; exact decide_eq_true (by omega)
  · exact h5 (by omega)
theorem szI_of {n : Int} {j : Nat} (hj : fits n j = true) (hi : ∀ i, i < j → fits n i = false) (hn : -9223372036854775808 ≤ n ∧ n ≤ 9223372036854775807) : szI n = j := by
  obtain ⟨h1, h2, h3⟩ := szI_spec n hn
  rcases Nat.lt_trichotomy (szI n) j with h | h | h
  · have := hi _ h; rw [h2] at this; cases this
  · exact h
  · have := h3 _ h; rw [hj] at this; cases this
/-- The number that bytes tell, shortest or not. -/
def numI (l : List UInt8) : Int := if (2 : Int) * (num l : Int) < 256 ^ l.length then num l else (num l : Int) - 256 ^ l.length
/-- What a row of at most 8 bytes is: a number of them, and which. -/
theorem num8 (l : List UInt8) (h : l.length ≤ 8) : (num l : Int) < 256 ^ l.length := by
  have := num_lt l
  have h2 : ((num l : Nat) : Int) < ((256 ^ l.length : Nat) : Int) := by omega
  simpa using h2
theorem len_cases {k : Nat} (h : k ≤ 8) : k = 0 ∨ k = 1 ∨ k = 2 ∨ k = 3 ∨ k = 4 ∨ k = 5 ∨ k = 6 ∨ k = 7 ∨ k = 8 := by omega
theorem numI_fits (l : List UInt8) (h : l.length ≤ 8) : fits (numI l) l.length = true := by
  have h1 := num8 l h
  unfold numI
  generalize num l = u at *
  rcases len_cases h with e | e | e | e | e | e | e | e | e <;> rw [e] at h1 ⊢
  · rw [fits0]; simp at h1 ⊢; omega
  · rw [fits1]; refine decide_eq_true ?_; split <;> omega
  · rw [fits2]; refine decide_eq_true ?_; split <;> omega
  · rw [fits3]; refine decide_eq_true ?_; split <;> omega
  · rw [fits4]; refine decide_eq_true ?_; split <;> omega
  · rw [fits5]; refine decide_eq_true ?_; split <;> omega
  · rw [fits6]; refine decide_eq_true ?_; split <;> omega
  · rw [fits7]; refine decide_eq_true ?_; split <;> omega
  · rw [fits8]; refine decide_eq_true ?_; split <;> omega
theorem fits_range {n : Int} {k : Nat} (h : k ≤ 8) (hf : fits n k = true) : -9223372036854775808 ≤ n ∧ n ≤ 9223372036854775807 := by
  rcases len_cases h with e | e | e | e | e | e | e | e | e <;> subst e
  · rw [fits0] at hf; have := eq_of_beq hf; omega
  · rw [fits1] at hf; have := of_decide_eq_true hf; omega
  · rw [fits2] at hf; have := of_decide_eq_true hf; omega
  · rw [fits3] at hf; have := of_decide_eq_true hf; omega
  · rw [fits4] at hf; have := of_decide_eq_true hf; omega
  · rw [fits5] at hf; have := of_decide_eq_true hf; omega
  · rw [fits6] at hf; have := of_decide_eq_true hf; omega
  · rw [fits7] at hf; have := of_decide_eq_true hf; omega
  · rw [fits8] at hf; have := of_decide_eq_true hf; omega
theorem numI_range (l : List UInt8) (h : l.length ≤ 8) : -9223372036854775808 ≤ numI l ∧ numI l ≤ 9223372036854775807 := fits_range h (numI_fits l h)
/-- The bytes of a number of so many. -/
theorem num_loI (n : Int) (k : Nat) : (num (loI n k) : Int) = n % 256 ^ k := by
  induction k with
  | zero => simp [loI, num]
  | succ k ih =>
    rw [loI_succ, num_snoc, loI_length]
    have hb : ((byI n k).toNat : Int) = n / 256 ^ k % 256 := by
      unfold byI
      rw [UInt8.toNat_ofNat']
      have : 0 ≤ n / 256 ^ k % 256 ∧ n / 256 ^ k % 256 < 256 := by omega
      omega
    have hp : (0 : Int) < 256 ^ k := Int.pow_pos (by decide)
    rw [Int.natCast_add, Int.natCast_mul, Int.natCast_pow, ih, hb, Int.pow_succ, show ((256 : Nat) : Int) = 256 from rfl]
    have h1 := Int.emod_add_mul_ediv n (256 ^ k)
    have h2 := Int.emod_add_mul_ediv (n / 256 ^ k) 256
    have h3 : n % (256 ^ k * 256) = n - 256 ^ k * 256 * (n / (256 ^ k * 256)) := by rw [Int.emod_def]
    rw [h3, ← Int.ediv_ediv_of_nonneg (by omega : (0 : Int) ≤ 256 ^ k)]
    generalize n / 256 ^ k / 256 = q at *
    generalize n / 256 ^ k = d at *
    have h4 : 256 ^ k * d = 256 ^ k * (d % 256) + 256 ^ k * 256 * q := by rw [Int.mul_assoc, ← Int.mul_add, h2]
    omega
theorem loI_low (n : Int) (k : Nat) (l : List UInt8) (hl : l.length = k) (h : (num l : Int) = n % 256 ^ k) : loI n k = l := by
  apply num_inj (by rw [loI_length, hl])
  have := num_loI n k
  omega
theorem numI_loI (n : Int) (k : Nat) (hk : k ≤ 8) (hn : -9223372036854775808 ≤ n ∧ n ≤ 9223372036854775807) : (numI (loI n k) == n) = fits n k := by
  have h1 := num_loI n k
  unfold numI
  rw [loI_length]
  generalize num (loI n k) = u at *
  rw [Bool.eq_iff_iff, beq_iff_eq]
  rcases len_cases hk with e | e | e | e | e | e | e | e | e <;> subst e
  · rw [fits0, beq_iff_eq]; simp at h1 ⊢; omega
  · rw [fits1, decide_eq_true_eq]; split <;> omega
  · rw [fits2, decide_eq_true_eq]; split <;> omega
  · rw [fits3, decide_eq_true_eq]; split <;> omega
  · rw [fits4, decide_eq_true_eq]; split <;> omega
  · rw [fits5, decide_eq_true_eq]; split <;> omega
  · rw [fits6, decide_eq_true_eq]; split <;> omega
  · rw [fits7, decide_eq_true_eq]; split <;> omega
  · rw [fits8, decide_eq_true_eq]; split <;> omega
/-- A row tells its number in its own bytes. -/
theorem loI_numI (l : List UInt8) (h : l.length ≤ 8) : loI (numI l) l.length = l := by
  apply loI_low _ _ _ rfl
  have h1 := num8 l h
  unfold numI
  generalize num l = u at *
  rcases len_cases h with e | e | e | e | e | e | e | e | e <;> rw [e] at h1 ⊢ <;> split <;> omega
end Go.Proofs.Ytbhoflmdhlchlaa
