/- PLAIN FACTS: the next bits. -/
import Derived.Test.YtggemncdnclhnaaTar6
import Derived.Test.YtggemncdnclhnaaTarPure2
namespace Go.Proofs.Ytggemncdnclhnaa
open Go.RowKit
set_option linter.unusedVariables false
set_option linter.unusedSimpArgs false

/-- What bits tell of a target: all but its lowest 8j bits. -/
theorem tb_high (t j : Nat) (h1 : 2 ^ (8 * (j + 2)) ≤ t) (h2 : t < 2 ^ (8 * (j + 3))) (ht : t < top) : ∃ i, tN (bN t) = t / 2 ^ (8 * i) * 2 ^ (8 * i) ∧ t < 2 ^ (8 * i + 23) ∧ (i = 0 ∨ 2 ^ (8 * i + 15) ≤ t) := by
  have hs : sizeN t = j + 3 := sizeN_of (by omega) (by rw [show j + 3 - 1 = j + 2 by omega]; exact h1) h2
  have hp : 0 < 2 ^ (8 * j) := Nat.pow_pos (by decide)
  have hm : shN t (3 - ((j + 3 : Nat) : Int)) = t / 2 ^ (8 * j) := by
    rw [show (3 : Int) - ((j + 3 : Nat) : Int) = -(j : Int) by omega, shN_down _ _ ht]
  have hle : t / 2 ^ (8 * j) * 2 ^ (8 * j) ≤ t := Nat.div_mul_le_self _ _
  have m2 : t / 2 ^ (8 * j) < 16777216 := by
    rw [Nat.div_lt_iff_lt_mul hp, show (16777216 : Nat) = 2 ^ 24 by decide, ← Nat.pow_add, show 24 + 8 * j = 8 * (j + 3) by omega]
    exact h2
  rw [bN_is t ht, hs, hm]
  by_cases hc : 8388607 < t / 2 ^ (8 * j)
  · rw [if_pos hc]
    refine ⟨j + 1, ?_, ?_, ?_⟩
    · have hj : 2 ^ (8 * (j + 1)) = 256 * 2 ^ (8 * j) := by rw [show 8 * (j + 1) = 8 + 8 * j by omega, Nat.pow_add]
      have hdd : t / 2 ^ (8 * (j + 1)) = t / 2 ^ (8 * j) / 256 := by rw [hj, Nat.mul_comm, Nat.div_div_eq_div_mul]
      rw [hdd, hj]
      generalize t / 2 ^ (8 * j) = m at *
      obtain ⟨p1, p2⟩ := bits_parts (e := j + 3 + 1) (m := m / 256) (by omega)
      have hle2 : m / 256 * 256 * 2 ^ (8 * j) ≤ t := Nat.le_trans (Nat.mul_le_mul_right _ (Nat.div_mul_le_self m 256)) hle
      have ht2 : m / 256 * 256 * 2 ^ (8 * j) < top := Nat.lt_of_le_of_lt hle2 ht
      unfold tN
      rw [p1, p2, show (((j + 3 + 1 : Nat) : Int) - 3) = ((j + 1 : Nat) : Int) by omega, shN_up, hj, ← Nat.mul_assoc, Nat.mod_eq_of_lt ht2]
    · refine Nat.lt_of_lt_of_le h2 (Nat.pow_le_pow_right (by decide) (by omega))
    · right
      have : 8388608 * 2 ^ (8 * j) ≤ t := Nat.le_trans (Nat.mul_le_mul_right _ hc) hle
      rw [show (8388608 : Nat) = 2 ^ 23 by decide, ← Nat.pow_add, show 23 + 8 * j = 8 * (j + 1) + 15 by omega] at this
      exact this
  · rw [if_neg hc]
    refine ⟨j, ?_, ?_, ?_⟩
    · generalize t / 2 ^ (8 * j) = m at *
      obtain ⟨p1, p2⟩ := bits_parts (e := j + 3) (m := m) (by omega)
      have ht2 : m * 2 ^ (8 * j) < top := Nat.lt_of_le_of_lt hle ht
      unfold tN
      rw [p1, p2, show (((j + 3 : Nat) : Int) - 3) = (j : Int) by omega, shN_up, Nat.mod_eq_of_lt ht2]
    · have h : t / 2 ^ (8 * j) < 2 ^ 23 := by
        rw [show (2 : Nat) ^ 23 = 8388608 by decide]
        omega
      rw [Nat.div_lt_iff_lt_mul hp, ← Nat.pow_add, Nat.add_comm 23 (8 * j)] at h
      exact h
    · right
      exact Nat.le_trans (Nat.pow_le_pow_right (by decide) (by omega)) h1
theorem tb_any (t : Nat) (h0 : t ≠ 0) (ht : t < top) : ∃ i, tN (bN t) = t / 2 ^ (8 * i) * 2 ^ (8 * i) ∧ t < 2 ^ (8 * i + 23) ∧ (i = 0 ∨ 2 ^ (8 * i + 15) ≤ t) := by
  obtain ⟨s1, s2, s3⟩ := sizeN_low h0
  by_cases h3 : 3 ≤ sizeN t
  · obtain ⟨j, hj⟩ : ∃ j, sizeN t = j + 3 := ⟨sizeN t - 3, by omega⟩
    rw [hj] at s2 s3
    exact tb_high t j (by rw [show j + 3 - 1 = j + 2 by omega] at s2; exact s2) s3 ht
  · have e : tN (bN t) = t ∧ t < 65536 := by
      have hc : sizeN t = 1 ∨ sizeN t = 2 := by omega
      rcases hc with hc | hc
      · rw [hc] at s2 s3
        exact ⟨back_one t (by omega) (by simpa using s3), Nat.lt_trans (show t < 256 by simpa using s3) (by decide)⟩
      · rw [hc] at s2 s3
        exact ⟨back_two t (by simpa using s2) (by simpa using s3), by simpa using s3⟩
    refine ⟨0, ?_, ?_, .inl rfl⟩
    · rw [e.1]; simp
    · exact Nat.lt_trans e.2 (by decide)
/-- The greater target's bits tell no less. -/
theorem tb_mono (x y : Nat) (h0 : x ≠ 0) (hy : y < top) (h : x ≤ y) : tN (bN x) ≤ tN (bN y) := by
  obtain ⟨i, e1, l1, g1⟩ := tb_any x h0 (Nat.lt_of_le_of_lt h hy)
  obtain ⟨j, e2, l2, g2⟩ := tb_any y (by omega) hy
  rw [e1, e2]
  rcases Nat.lt_trichotomy i j with hl | rfl | hl
  · have g : 2 ^ (8 * j + 15) ≤ y := by
      rcases g2 with g2 | g2
      · omega
      · exact g2
    have a1 : x / 2 ^ (8 * i) * 2 ^ (8 * i) ≤ x := Nat.div_mul_le_self _ _
    have a2 : 2 ^ (8 * i + 23) ≤ 2 ^ (8 * j + 15) := Nat.pow_le_pow_right (by decide) (by omega)
    have hp : 0 < 2 ^ (8 * j) := Nat.pow_pos (by decide)
    have a3 : 2 ^ (8 * j + 15) ≤ y / 2 ^ (8 * j) * 2 ^ (8 * j) := by
      rw [Nat.add_comm, Nat.pow_add]
      refine Nat.mul_le_mul_right _ ?_
      rw [Nat.le_div_iff_mul_le hp, ← Nat.pow_add, Nat.add_comm]
      exact g
    exact Nat.le_trans a1 (Nat.le_trans (Nat.le_of_lt l1) (Nat.le_trans a2 a3))
  · exact Nat.mul_le_mul_right _ (Nat.div_le_div_right h)
  · have g : 2 ^ (8 * i + 15) ≤ x := by
      rcases g1 with g1 | g1
      · omega
      · exact g1
    have a2 : 2 ^ (8 * j + 23) ≤ 2 ^ (8 * i + 15) := Nat.pow_le_pow_right (by decide) (by omega)
    omega
/-- A target, scaled, without what is above. -/
def scF (t sp : Nat) : Nat := t / 480 * sp + t % 480 * sp / 480
theorem scF_mono (t : Nat) {a b : Nat} (h : a ≤ b) : scF t a ≤ scF t b :=
  Nat.add_le_add (Nat.mul_le_mul_left _ h) (Nat.div_le_div_right (Nat.mul_le_mul_left _ h))
theorem limN_pos : limN ≠ 0 := by decide +kernel
theorem limN_of : ofT 545259519 = limN := by decide +kernel
theorem scN_eq (t sp : Nat) : scN t sp = scF t sp % top := by
  unfold scN addN mulN scF
  rw [Nat.mod_add_mod]
theorem scB_eq (t sp : Nat) : scB t sp = decide (top ≤ scF t sp) := by
  have htop : 0 < top := by decide
  unfold scB addB mulN mulH scF
  generalize t % 480 * sp / 480 = x
  generalize t / 480 * sp = y
  by_cases h : y < top
  · rw [Nat.div_eq_of_lt h, Nat.mod_eq_of_lt h]
    simp
  · have h1 : 0 < y / top := Nat.div_pos (by omega) htop
    have h2 : (y / top != 0) = true := by simp; omega
    rw [h2, decide_eq_true (show top ≤ y + x by omega)]
    rfl
theorem limN_lt : limN < top := tN_lt _
theorem mvN_eq (t sp : Nat) : mvN t sp = min (scF t sp) limN := by
  have hl := limN_lt
  unfold mvN
  rw [scB_eq, scN_eq]
  generalize limN = k at *
  generalize scF t sp = f
  by_cases h : top ≤ f
  · rw [decide_eq_true h, Bool.true_or, if_pos rfl]; omega
  · rw [decide_eq_false h, Bool.false_or, Nat.mod_eq_of_lt (by omega)]
    by_cases h2 : k < f
    · rw [decide_eq_true h2, if_pos rfl]; omega
    · rw [decide_eq_false h2, if_neg (by decide)]; omega
theorem spN_mono {a b : Nat} (h : a ≤ b) : spN a ≤ spN b := by unfold spN; omega
theorem nxT_ok (t sp : Nat) : nxT t sp ≠ 0 ∧ nxT t sp ≤ limN := by
  have hp := limN_pos
  have h : nxT t sp = if min (scF t (spN sp)) limN = 0 then 1 else min (scF t (spN sp)) limN := by unfold nxT; rw [mvN_eq]
  rw [h]
  generalize limN = k at *
  generalize scF t (spN sp) = f
  split <;> omega
theorem nxT_mono (t : Nat) {a b : Nat} (h : a ≤ b) : nxT t a ≤ nxT t b := by
  have hp := limN_pos
  have hf := scF_mono t (spN_mono h)
  have e : ∀ s, nxT t s = if min (scF t (spN s)) limN = 0 then 1 else min (scF t (spN s)) limN := fun s => by unfold nxT; rw [mvN_eq]
  rw [e a, e b]
  generalize limN = k at *
  generalize scF t (spN a) = f at *
  generalize scF t (spN b) = g at *
  split <;> split <;> omega
/-- The bits of the next target, and what they tell. -/
theorem nx_facts (c a b : Nat) (h : ofE c = 0) (hab : a ≤ b) : ∃ x y, nxN c a < 4294967296 ∧ nxN c b < 4294967296 ∧ ofE (nxN c a) = 0 ∧ ofE (nxN c b) = 0 ∧ ofT (nxN c a) = x ∧ ofT (nxN c b) = y ∧ x < top ∧ y < top ∧ subB y x = false ∧ subB limN y = false := by
  obtain ⟨x0, xl⟩ := nxT_ok (ofT c) a
  obtain ⟨y0, yl⟩ := nxT_ok (ofT c) b
  have hm := nxT_mono (ofT c) hab
  have hlt := limN_lt
  have ea : nxN c a = bN (nxT (ofT c) a) := if_pos h
  have eb : nxN c b = bN (nxT (ofT c) b) := if_pos h
  rw [ea, eb]
  generalize nxT (ofT c) a = X at *
  generalize nxT (ofT c) b = Y at *
  have hX : X < top := by omega
  have hY : Y < top := by omega
  obtain ⟨a1, a2, a3, a4⟩ := ofE_bN X x0 hX
  obtain ⟨b1, b2, b3, b4⟩ := ofE_bN Y y0 hY
  have hmm := tb_mono X Y x0 hY hm
  refine ⟨tN (bN X), tN (bN Y), bN_lt X hX, bN_lt Y hY, a1, b1, a2, b2, tN_lt _, tN_lt _, ?_, ?_⟩
  · unfold subB; simp only [decide_eq_false_iff_not]; omega
  · unfold subB; simp only [decide_eq_false_iff_not]; omega
end Go.Proofs.Ytggemncdnclhnaa
