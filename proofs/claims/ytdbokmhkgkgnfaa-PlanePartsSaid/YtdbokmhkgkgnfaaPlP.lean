/- PLAIN: numbers as places on a plane: digits to the base -1 + i. -/
import GoSem.Core.Lib
namespace Go.Proofs.Ytdbokmhkgkgnfaa
open Go
set_option linter.unusedVariables false
set_option linter.unusedSimpArgs false

/-- the sum of the digits' worths, the lowest one's being (a, b) -/
def plS : Nat → Nat → Int → Int → Int × Int
  | 0, _, _, _ => (0, 0)
  | k + 1, n, a, b => if n % 2 = 1 then (a + (plS k (n / 2) (-a - b) (a - b)).1, b + (plS k (n / 2) (-a - b) (a - b)).2) else plS k (n / 2) (-a - b) (a - b)
/-- the number of a place, and what is left of it -/
def plB : Nat → Int → Int → Nat × Int × Int
  | 0, a, b => (0, a, b)
  | k + 1, a, b => ((((a + b) % 2).toNat + 2 * (plB k ((b - (a - (a + b) % 2)) / 2) ((-(a - (a + b) % 2) - b) / 2)).1), (plB k ((b - (a - (a + b) % 2)) / 2) ((-(a - (a + b) % 2) - b) / 2)).2)

theorem plS_beta (k : Nat) : ∀ (n : Nat) (a b : Int), plS k n (-a - b) (a - b) = (-(plS k n a b).1 - (plS k n a b).2, (plS k n a b).1 - (plS k n a b).2) := by
  induction k with
  | zero => intro n a b; rfl
  | succ k ih =>
    intro n a b
    have h := ih (n / 2) (-a - b) (a - b)
    simp only [plS]
    split
    · rw [h]
      ext
      · simp only; omega
      · simp only; omega
    · exact h
theorem plS_10 (k n : Nat) : plS (k + 1) n 1 0 = (((n % 2 : Nat) : Int) + (-(plS k (n / 2) 1 0).1 - (plS k (n / 2) 1 0).2), (plS k (n / 2) 1 0).1 - (plS k (n / 2) 1 0).2) := by
  have h := plS_beta k (n / 2) 1 0
  simp only [plS]
  rw [h]
  split
  · rename_i h2; rw [h2]; ext <;> simp
  · rename_i h2; rw [show n % 2 = 0 by omega]; ext <;> simp

theorem plB_S (k : Nat) : ∀ n : Nat, plB k (plS k n 1 0).1 (plS k n 1 0).2 = (n % 2 ^ k, 0, 0) := by
  induction k with
  | zero => intro n; simp [plB, plS, Nat.mod_one]
  | succ k ih =>
    intro n
    have h := plS_10 k n
    have hi := ih (n / 2)
    generalize plS k (n / 2) 1 0 = r at *
    rw [h]
    obtain ⟨r1, r2⟩ := r
    simp only [plB] at hi ⊢
    have e1 : ((((n % 2 : Nat) : Int) + (-r1 - r2)) + (r1 - r2)) % 2 = ((n % 2 : Nat) : Int) := by omega
    rw [e1]
    have e2 : ((r1 - r2) - ((((n % 2 : Nat) : Int) + (-r1 - r2)) - ((n % 2 : Nat) : Int))) / 2 = r1 := by omega
    have e3 : (-((((n % 2 : Nat) : Int) + (-r1 - r2)) - ((n % 2 : Nat) : Int)) - (r1 - r2)) / 2 = r2 := by omega
    rw [e2, e3, hi, Int.toNat_natCast]
    ext
    · simp only
      rw [Nat.pow_succ, Nat.mul_comm (2 ^ k) 2, Nat.mod_mul]
    · rfl
    · rfl
theorem plS_B (k : Nat) : ∀ a b : Int, (plB k a b).2 = (0, 0) → plS k (plB k a b).1 1 0 = (a, b) ∧ (plB k a b).1 < 2 ^ k := by
  induction k with
  | zero =>
    intro a b h
    simp only [plB, Prod.mk.injEq] at h
    obtain ⟨rfl, rfl⟩ := h
    exact ⟨rfl, by simp [plB]⟩
  | succ k ih =>
    intro a b h
    have h0 := ih ((b - (a - (a + b) % 2)) / 2) ((-(a - (a + b) % 2) - b) / 2) (by simpa only [plB] using h)
    obtain ⟨h1, h2⟩ := h0
    simp only [plB]
    generalize (plB k ((b - (a - (a + b) % 2)) / 2) ((-(a - (a + b) % 2) - b) / 2)).1 = m at *
    have hd : ((a + b) % 2).toNat < 2 := by omega
    have e1 : (((a + b) % 2).toNat + 2 * m) / 2 = m := by omega
    have e2 : (((a + b) % 2).toNat + 2 * m) % 2 = ((a + b) % 2).toNat := by omega
    refine ⟨?_, by rw [Nat.pow_succ]; omega⟩
    rw [plS_10, e1, e2, h1]
    ext
    · simp only; omega
    · simp only; omega

theorem plS_bound (j : Nat) : ∀ (n : Nat) (a b w : Int), -w ≤ a → a ≤ w → -w ≤ b → b ≤ w → -(3 * w * (2 ^ j - 1 : Nat)) ≤ (plS (2 * j) n a b).1 ∧ (plS (2 * j) n a b).1 ≤ 3 * w * (2 ^ j - 1 : Nat) ∧ -(3 * w * (2 ^ j - 1 : Nat)) ≤ (plS (2 * j) n a b).2 ∧ (plS (2 * j) n a b).2 ≤ 3 * w * (2 ^ j - 1 : Nat) := by
  induction j with
  | zero => intro n a b w _ _ _ _; simp [plS]
  | succ j ih =>
    intro n a b w h1 h2 h3 h4
    have h := ih (n / 2 / 2) (-(-a - b) - (a - b)) ((-a - b) - (a - b)) (2 * w) (by omega) (by omega) (by omega) (by omega)
    have e : 3 * w * (2 ^ (j + 1) - 1 : Nat) = 3 * (2 * w) * (2 ^ j - 1 : Nat) + 3 * w := by
      have hp := Nat.two_pow_pos j
      have : (2 ^ (j + 1) - 1 : Nat) = 2 * (2 ^ j - 1) + 1 := by rw [Nat.pow_succ]; omega
      rw [this]
      generalize (2 ^ j - 1 : Nat) = q
      push_cast
      rw [Int.mul_add, Int.mul_one, show 3 * w * (2 * (q : Int)) = 3 * (2 * w) * (q : Int) by ac_rfl]
    rw [e]
    generalize 3 * (2 * w) * (2 ^ j - 1 : Nat) = T at *
    simp only [show 2 * (j + 1) = 2 * j + 1 + 1 by omega, plS]
    generalize plS (2 * j) (n / 2 / 2) (-(-a - b) - (a - b)) ((-a - b) - (a - b)) = r at *
    split <;> split <;> (try simp only) <;> omega

/-- the place of a number -/
def plA (n : Nat) : Int := (plS 40 n 1 0).1
def plI (n : Nat) : Int := (plS 40 n 1 0).2
theorem plA_bound (n : Nat) : -3145725 ≤ plA n ∧ plA n ≤ 3145725 ∧ -3145725 ≤ plI n ∧ plI n ≤ 3145725 := by
  have h := plS_bound 20 n 1 0 1 (by decide) (by decide) (by decide) (by decide)
  have e : 3 * (1 : Int) * (2 ^ 20 - 1 : Nat) = 3145725 := by decide
  rw [e] at h
  exact h

/-- the number that a place has, its error -/
def plE (a b : Int) : Int := if -4194304 < a ∧ a < 4194304 ∧ -4194304 < b ∧ b < 4194304 then (if (plB 40 a b).2 = (0, 0) then 0 else 6) else 5
def plN (a b : Int) : Nat := if plE a b = 0 then (plB 40 a b).1 else 0
theorem plE_cases (a b : Int) : plE a b = 0 ∧ plS 40 (plN a b) 1 0 = (a, b) ∧ plN a b < 2 ^ 40 ∨ (plE a b = 5 ∨ plE a b = 6) ∧ plN a b = 0 := by
  by_cases h : plE a b = 0
  · refine .inl ⟨h, ?_⟩
    have e : plN a b = (plB 40 a b).1 := by unfold plN; rw [if_pos h]
    rw [e]
    unfold plE at h
    split at h
    · split at h
      · rename_i h2; exact plS_B 40 a b h2
      · cases h
    · cases h
  · refine .inr ⟨?_, by unfold plN; rw [if_neg h]⟩
    unfold plE at h ⊢
    split
    · rename_i h1
      rw [if_pos h1] at h
      split
      · rename_i h2; rw [if_pos h2] at h; exact absurd rfl h
      · right; rfl
    · left; rfl
theorem plE_of (n : Nat) (h : n < 2 ^ 40) : plE (plA n) (plI n) = 0 ∧ plN (plA n) (plI n) = n := by
  have hb := plA_bound n
  have h1 : plB 40 (plA n) (plI n) = (n, 0, 0) := by
    have := plB_S 40 n
    rw [Nat.mod_eq_of_lt h] at this
    exact this
  have h2 : plE (plA n) (plI n) = 0 := by
    unfold plE
    rw [if_pos (by omega), h1, if_pos rfl]
  refine ⟨h2, ?_⟩
  unfold plN
  rw [if_pos h2, h1]
theorem plA_inj {n m : Nat} (h : n < 2 ^ 40) (h2 : m < 2 ^ 40) (e1 : plA n = plA m) (e2 : plI n = plI m) : n = m := by
  have a := (plE_of n h).2
  have b := (plE_of m h2).2
  rw [e1, e2, b] at a
  exact a.symm
end Go.Proofs.Ytdbokmhkgkgnfaa
