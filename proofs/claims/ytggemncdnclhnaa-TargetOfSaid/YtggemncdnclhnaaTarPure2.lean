/- PLAIN FACTS: bits of a target, and their target. -/
import Derived.Test.YtggemncdnclhnaaTarPure
namespace Go.Proofs.Ytggemncdnclhnaa
open Go.RowKit
set_option linter.unusedVariables false
set_option linter.unusedSimpArgs false

theorem shN_down (t j : Nat) (ht : t < top) : shN t (-(j : Int)) = t / 2 ^ (8 * j) := by
  unfold shN
  rcases Nat.eq_zero_or_pos j with rfl | hj
  · rw [if_neg (by omega)]
    simp
    exact Nat.mod_eq_of_lt ht
  · rw [if_pos (by omega), show (- -(j : Int)).toNat = j by omega]
theorem shN_up (a j : Nat) : shN a (j : Int) = a * 2 ^ (8 * j) % top := by
  unfold shN
  rw [if_neg (by omega), Int.toNat_natCast]
theorem sizeN_of {t s : Nat} (hs : 1 ≤ s) (h1 : 2 ^ (8 * (s - 1)) ≤ t) (h2 : t < 2 ^ (8 * s)) : sizeN t = s := by
  have ht : t ≠ 0 := by have := Nat.pow_pos (n := 8 * (s - 1)) (show 0 < 2 by decide); omega
  have b1 := Nat.lt_of_le_of_lt h1 (blen_spec t)
  have b2 := Nat.lt_of_le_of_lt (blen_low t ht) h2
  rw [Nat.pow_lt_pow_iff_right (by decide)] at b1 b2
  unfold sizeN
  omega
theorem sizeN_low {t : Nat} (ht : t ≠ 0) : 1 ≤ sizeN t ∧ 2 ^ (8 * (sizeN t - 1)) ≤ t ∧ t < 2 ^ (8 * sizeN t) := by
  have b1 := blen_spec t
  have b2 := blen_low t ht
  have hb : 1 ≤ blen t := by
    refine Nat.one_le_iff_ne_zero.2 fun e => ?_
    rw [e] at b1
    simp at b1
    exact ht b1
  have h1 : 8 * (sizeN t - 1) ≤ blen t - 1 := by unfold sizeN; omega
  have h2 : blen t ≤ 8 * sizeN t := by unfold sizeN; omega
  exact ⟨by unfold sizeN; omega, Nat.le_trans (Nat.pow_le_pow_right (by decide) h1) b2, Nat.lt_of_lt_of_le b1 (Nat.pow_le_pow_right (by decide) h2)⟩
/-- A number of k bytes, moved up by j bytes. -/
theorem sizeN_moved {m k j : Nat} (hk : 1 ≤ k) (h1 : 2 ^ (8 * (k - 1)) ≤ m) (h2 : m < 2 ^ (8 * k)) : sizeN (m * 2 ^ (8 * j)) = k + j := by
  refine sizeN_of (by omega) ?_ ?_
  · rw [show 8 * (k + j - 1) = 8 * (k - 1) + 8 * j by omega, Nat.pow_add]
    exact Nat.mul_le_mul_right _ h1
  · rw [show 8 * (k + j) = 8 * k + 8 * j by omega, Nat.pow_add]
    exact Nat.mul_lt_mul_of_pos_right h2 (Nat.pow_pos (by decide))
/-- Bits, taken apart. -/
theorem bits_parts {e m : Nat} (h : m < 8388608) : (e * 16777216 + m) % 8388608 = m ∧ (e * 16777216 + m) / 16777216 = e := by omega
theorem bN_is (t : Nat) (ht : t < top) : bN t = if 8388607 < shN t (3 - (sizeN t : Int)) then (sizeN t + 1) * 16777216 + shN t (3 - (sizeN t : Int)) / 256 else sizeN t * 16777216 + shN t (3 - (sizeN t : Int)) := by
  unfold bN
  rw [manN_eq t ht]
/-- A target of j bytes above three: m is its three highest ones. -/
theorem bN_high (m j : Nat) (h1 : 65536 ≤ m) (h2 : m < 16777216) (ht : m * 2 ^ (8 * j) < top) : bN (m * 2 ^ (8 * j)) = if 8388607 < m then (j + 4) * 16777216 + m / 256 else (j + 3) * 16777216 + m := by
  have hs : sizeN (m * 2 ^ (8 * j)) = 3 + j := sizeN_moved (by decide) (by simpa using h1) (by simpa using h2)
  have hm : shN (m * 2 ^ (8 * j)) (3 - ((3 + j : Nat) : Int)) = m := by
    rw [show (3 : Int) - ((3 + j : Nat) : Int) = -(j : Int) by omega, shN_down _ _ ht, Nat.mul_div_cancel _ (Nat.pow_pos (by decide))]
  rw [bN_is _ ht, hs, hm, show 3 + j + 1 = j + 4 by omega, Nat.add_comm 3 j]
/-- Its bits, and the target that they tell. -/
theorem back_high (t j : Nat) (h1 : 2 ^ (8 * (j + 2)) ≤ t) (h2 : t < 2 ^ (8 * (j + 3))) (ht : t < top) : tN (bN t) ≤ t ∧ tN (bN t) ≠ 0 ∧ bN (tN (bN t)) = bN t := by
  have hs : sizeN t = j + 3 := sizeN_of (by omega) (by rw [show j + 3 - 1 = j + 2 by omega]; exact h1) h2
  have hp : 0 < 2 ^ (8 * j) := Nat.pow_pos (by decide)
  have hm : shN t (3 - ((j + 3 : Nat) : Int)) = t / 2 ^ (8 * j) := by
    rw [show (3 : Int) - ((j + 3 : Nat) : Int) = -(j : Int) by omega, shN_down _ _ ht]
  have hle : t / 2 ^ (8 * j) * 2 ^ (8 * j) ≤ t := Nat.div_mul_le_self _ _
  have m1 : 65536 ≤ t / 2 ^ (8 * j) := by
    rw [Nat.le_div_iff_mul_le hp, show (65536 : Nat) = 2 ^ 16 by decide, ← Nat.pow_add, show 16 + 8 * j = 8 * (j + 2) by omega]
    exact h1
  have m2 : t / 2 ^ (8 * j) < 16777216 := by
    rw [Nat.div_lt_iff_lt_mul hp, show (16777216 : Nat) = 2 ^ 24 by decide, ← Nat.pow_add, show 24 + 8 * j = 8 * (j + 3) by omega]
    exact h2
  rw [bN_is t ht, hs, hm]
  generalize t / 2 ^ (8 * j) = m at *
  by_cases hc : 8388607 < m
  · rw [if_pos hc]
    obtain ⟨p1, p2⟩ := bits_parts (e := j + 3 + 1) (m := m / 256) (by omega)
    have hj : 2 ^ (8 * (j + 1)) = 256 * 2 ^ (8 * j) := by rw [show 8 * (j + 1) = 8 + 8 * j by omega, Nat.pow_add]
    have hle2 : m / 256 * 256 * 2 ^ (8 * j) ≤ t := Nat.le_trans (Nat.mul_le_mul_right _ (Nat.div_mul_le_self m 256)) hle
    have ht2 : m / 256 * 256 * 2 ^ (8 * j) < top := Nat.lt_of_le_of_lt hle2 ht
    have e : tN ((j + 3 + 1) * 16777216 + m / 256) = m / 256 * 256 * 2 ^ (8 * j) := by
      unfold tN
      rw [p1, p2, show (((j + 3 + 1 : Nat) : Int) - 3) = ((j + 1 : Nat) : Int) by omega, shN_up, hj, ← Nat.mul_assoc, Nat.mod_eq_of_lt ht2]
    rw [e]
    refine ⟨hle2, ?_, ?_⟩
    · have : 0 < m / 256 * 256 * 2 ^ (8 * j) := Nat.mul_pos (by omega) hp
      omega
    · rw [bN_high _ _ (by omega) (by omega) ht2, if_pos (by omega), Nat.mul_div_cancel _ (by decide)]
  · rw [if_neg hc]
    obtain ⟨p1, p2⟩ := bits_parts (e := j + 3) (m := m) (by omega)
    have ht2 : m * 2 ^ (8 * j) < top := Nat.lt_of_le_of_lt hle ht
    have e : tN ((j + 3) * 16777216 + m) = m * 2 ^ (8 * j) := by
      unfold tN
      rw [p1, p2, show (((j + 3 : Nat) : Int) - 3) = (j : Int) by omega, shN_up, Nat.mod_eq_of_lt ht2]
    rw [e]
    refine ⟨hle, ?_, ?_⟩
    · have : 0 < m * 2 ^ (8 * j) := Nat.mul_pos (by omega) hp
      omega
    · rw [bN_high _ _ m1 m2 ht2, if_neg hc]
/-- A target of two bytes, of one. -/
theorem back_two (t : Nat) (h1 : 256 ≤ t) (h2 : t < 65536) : tN (bN t) = t := by
  have ht : t < top := Nat.lt_of_lt_of_le h2 (by decide)
  have hs : sizeN t = 2 := sizeN_of (by decide) (by simpa using h1) (by simpa using h2)
  have hm : shN t (3 - ((2 : Nat) : Int)) = t * 256 := by
    rw [show (3 : Int) - ((2 : Nat) : Int) = ((1 : Nat) : Int) by omega, shN_up]
    exact Nat.mod_eq_of_lt (Nat.lt_of_lt_of_le (show t * 2 ^ (8 * 1) < 16777216 by omega) (by decide))
  rw [bN_is t ht, hs, hm]
  by_cases hc : 8388607 < t * 256
  · rw [if_pos hc, Nat.mul_div_cancel _ (by decide)]
    obtain ⟨p1, p2⟩ := bits_parts (e := 2 + 1) (m := t) (by omega)
    unfold tN
    rw [p1, p2, show (((2 + 1 : Nat) : Int) - 3) = ((0 : Nat) : Int) by omega, shN_up]
    simp
    exact Nat.mod_eq_of_lt ht
  · rw [if_neg hc]
    obtain ⟨p1, p2⟩ := bits_parts (e := 2) (m := t * 256) (by omega)
    unfold tN
    rw [p1, p2, show (((2 : Nat) : Int) - 3) = -((1 : Nat) : Int) by omega, shN_down _ _ (Nat.lt_of_lt_of_le (show t * 256 < 16777216 by omega) (by decide))]
    exact Nat.mul_div_cancel (n := 256) t (by decide)
theorem back_one (t : Nat) (h1 : 1 ≤ t) (h2 : t < 256) : tN (bN t) = t := by
  have ht : t < top := Nat.lt_of_lt_of_le h2 (by decide)
  have hs : sizeN t = 1 := sizeN_of (by decide) (by simpa using h1) (by simpa using h2)
  have hm : shN t (3 - ((1 : Nat) : Int)) = t * 65536 := by
    rw [show (3 : Int) - ((1 : Nat) : Int) = ((2 : Nat) : Int) by omega, shN_up]
    exact Nat.mod_eq_of_lt (Nat.lt_of_lt_of_le (show t * 2 ^ (8 * 2) < 16777216 by omega) (by decide))
  rw [bN_is t ht, hs, hm]
  by_cases hc : 8388607 < t * 65536
  · rw [if_pos hc]
    obtain ⟨p1, p2⟩ := bits_parts (e := 1 + 1) (m := t * 65536 / 256) (by omega)
    unfold tN
    rw [p1, p2, show (((1 + 1 : Nat) : Int) - 3) = -((1 : Nat) : Int) by omega, shN_down _ _ (Nat.lt_of_lt_of_le (show t * 65536 / 256 < 16777216 by omega) (by decide))]
    omega
  · rw [if_neg hc]
    obtain ⟨p1, p2⟩ := bits_parts (e := 1) (m := t * 65536) (by omega)
    unfold tN
    rw [p1, p2, show (((1 : Nat) : Int) - 3) = -((2 : Nat) : Int) by omega, shN_down _ _ (Nat.lt_of_lt_of_le (show t * 65536 < 16777216 by omega) (by decide))]
    exact Nat.mul_div_cancel (n := 65536) t (by decide)
/-- The bits of any target but 0 may be, and tell no more than it. -/
theorem back_any (t : Nat) (h0 : t ≠ 0) (ht : t < top) : tN (bN t) ≤ t ∧ tN (bN t) ≠ 0 ∧ bN (tN (bN t)) = bN t := by
  obtain ⟨s1, s2, s3⟩ := sizeN_low h0
  by_cases h3 : 3 ≤ sizeN t
  · obtain ⟨j, hj⟩ : ∃ j, sizeN t = j + 3 := ⟨sizeN t - 3, by omega⟩
    rw [hj] at s2 s3
    exact back_high t j (by rw [show j + 3 - 1 = j + 2 by omega] at s2; exact s2) s3 ht
  · have e : tN (bN t) = t := by
      have hc : sizeN t = 1 ∨ sizeN t = 2 := by omega
      rcases hc with hc | hc
      · rw [hc] at s2 s3
        exact back_one t (by omega) (by simpa using s3)
      · rw [hc] at s2 s3
        exact back_two t (by simpa using s2) (by simpa using s3)
    rw [e]
    exact ⟨Nat.le_refl _, h0, rfl⟩
theorem ofE_bN (t : Nat) (h0 : t ≠ 0) (ht : t < top) : ofE (bN t) = 0 ∧ ofT (bN t) = tN (bN t) ∧ tN (bN t) ≤ t ∧ bN (tN (bN t)) = bN t := by
  obtain ⟨h1, h2, h3⟩ := back_any t h0 ht
  have hn : ¬ (tN (bN t) = 0 ∨ bN (tN (bN t)) ≠ bN t) := by
    rintro (h | h)
    · exact h2 h
    · exact h h3
  exact ⟨if_neg hn, if_neg hn, h1, h3⟩
theorem ofE_back (b : Nat) (h : ofE b = 0) : ofT b = tN b ∧ bN (tN b) = b := by
  unfold ofE at h
  by_cases hc : tN b = 0 ∨ bN (tN b) ≠ b
  · rw [if_pos hc] at h; cases h
  · refine ⟨if_neg hc, ?_⟩
    by_cases h2 : bN (tN b) = b
    · exact h2
    · exact absurd (.inr h2) hc
theorem bN_zero : bN 0 = 0 := by decide +kernel
end Go.Proofs.Ytggemncdnclhnaa
