/- PLAIN: which whole multiple of 2^-10 a word of binary64 stands for; each operation whose exact answer is such a multiple below 2^53 is exact. -/
import Derived.WalkLawsBesides
namespace Go.Proofs.Ytdbokmhkgkgnfaa
open Go Ieee
set_option linter.unusedVariables false
set_option linter.unusedSimpArgs false

def E1 : Nat := 1064
def E2 : Nat := 1074
/-- a number of the sign and the size -/
def sg (s : Bool) (a : Nat) : Int := if s then -(a : Int) else (a : Int)
theorem sg_abs (s : Bool) (a : Nat) : (sg s a).natAbs = a := by cases s <;> simp [sg]
theorem sg_mul (s : Bool) (a b : Nat) : sg s (a * b) = sg s a * (b : Int) := by cases s <;> simp [sg, Int.neg_mul]
theorem sg_mul2 (s t : Bool) (a b : Nat) : sg (s ^^ t) (a * b) = sg s a * sg t b := by cases s <;> cases t <;> simp [sg, Int.neg_mul, Int.mul_neg]
theorem sg_opp (s : Bool) (a : Nat) : sg (!s) a = -sg s a := by cases s <;> simp [sg]
theorem signed_sg (s : Bool) (m k : Nat) : signed s m k = sg s (m * 2 ^ k) := by simp only [signed, sg, Nat.shiftLeft_eq]

/-- the datum is v * 2^-10 -/
def IsD (d : Datum) (v : Int) : Prop := ∃ s m i, d = .number s m i ∧ ∃ k : Nat, i + (2 * E2 : Nat) = k ∧ sg s (m * 2 ^ k) = v * ((2 ^ (E1 + E2) : Nat) : Int)
/-- the word is v * 2^-10 -/
def IsF (w : Nat) (v : Int) : Prop := ∃ s m i, double.read w = .number s m i ∧ ∃ k : Nat, i + (E2 : Nat) = k ∧ sg s (m * 2 ^ k) = v * ((2 ^ E1 : Nat) : Int)

theorem IsF.d {w : Nat} {v : Int} (h : IsF w v) : IsD (double.read w) v := by
  obtain ⟨s, m, i, h1, k, h2, h3⟩ := h
  refine ⟨s, m, i, h1, k + E2, by omega, ?_⟩
  rw [Nat.pow_add, ← Nat.mul_assoc, sg_mul, h3, Nat.pow_add, Int.natCast_mul, Int.mul_assoc]

theorem pow_pos2 (n : Nat) : 0 < 2 ^ n := Nat.two_pow_pos n

theorem log2_shift {m a i p : Nat} (hm : m ≠ 0) (ha : a ≠ 0) (h : m * 2 ^ i = a * 2 ^ p) : m.log2 + i = a.log2 + p := by
  have key : ∀ x y : Nat, x ≠ 0 → (x * 2 ^ y).log2 = x.log2 + y := by
    intro x y hx
    have h0 : x * 2 ^ y ≠ 0 := Nat.mul_ne_zero hx (Nat.pos_iff_ne_zero.1 (pow_pos2 y))
    have h1 : x.log2 + y ≤ (x * 2 ^ y).log2 := (Nat.le_log2 h0).2 (by rw [Nat.pow_add]; exact Nat.mul_le_mul_right _ ((Nat.le_log2 hx).1 (Nat.le_refl _)))
    have h2 : (x * 2 ^ y).log2 < x.log2 + y + 1 := (Nat.log2_lt h0).2 (by
      rw [show x.log2 + y + 1 = (x.log2 + 1) + y by omega, Nat.pow_add]
      exact Nat.mul_lt_mul_of_pos_right ((Nat.log2_lt hx).1 (Nat.lt_succ_self _)) (pow_pos2 y))
    omega
  rw [← key m i hm, ← key a p ha, h]

theorem cut_zero (way : Toward) (s : Bool) (n : Nat) : way.cut s n 0 = n := by
  have h : (1 : Nat) <<< min 0 (n.log2 + 2) = 1 := by simp
  unfold Toward.cut
  rw [h]
  cases way <;> simp [Nat.mod_one]

theorem cut_exact (way : Toward) (s : Bool) (n d : Nat) (hn : n ≠ 0) (hd : d ≤ n.log2 + 2) (h : n % 2 ^ d = 0) : way.cut s n d = n / 2 ^ d := by
  have hg : (1 : Nat) <<< min d (n.log2 + 2) = 2 ^ d := by rw [Nat.min_eq_left hd, Nat.shiftLeft_eq, Nat.one_mul]
  have hp := pow_pos2 d
  unfold Toward.cut
  rw [hg]
  simp only [h]
  cases way <;> simp [Nat.pos_iff_ne_zero.1 hp]

theorem binade_eq : double.binade = 2 ^ 52 := rfl
theorem infRung_eq : double.infRung = 2047 * 2 ^ 52 := by decide
theorem signWeight_eq : double.signWeight = 2 ^ 63 := by decide
theorem least_eq : double.leastPlace = -1074 := by decide

theorem read_word (s : Bool) (q k : Nat) (hq : q ≤ 2000) (h1 : 2 ^ 52 ≤ k) (h2 : k < 2 ^ 53) : double.read (double.word s (min (q * double.binade + k) double.infRung)) = .number s k (-1074 + q) := by
  have hm : min (q * double.binade + k) double.infRung = q * 2 ^ 52 + k := by
    rw [binade_eq, infRung_eq]; omega
  rw [hm]
  have a1 : (q * 2 ^ 52 + k) / 2 ^ 52 = q + 1 := by omega
  have a2 : (q * 2 ^ 52 + k) % 2 ^ 52 = k - 2 ^ 52 := by omega
  have a3 : q * 2 ^ 52 + k < 2 ^ 63 := by omega
  have hw : double.word s (q * 2 ^ 52 + k) / 2 ^ 63 % 2 = s.toNat ∧ double.word s (q * 2 ^ 52 + k) % 2 ^ 63 = q * 2 ^ 52 + k := by
    unfold Format.word
    rw [signWeight_eq]
    cases s
    · simp only [Bool.false_eq_true, if_false, Bool.toNat_false]; omega
    · simp only [if_true, Bool.toNat_true]; omega
  unfold Format.read
  rw [signWeight_eq, hw.1, hw.2, binade_eq, infRung_eq, least_eq]
  have c1 : ¬ (q * 2 ^ 52 + k < 2 ^ 52) := by omega
  have c2 : q * 2 ^ 52 + k < 2047 * 2 ^ 52 := by omega
  simp only [c1, c2, if_false, if_true]
  rw [a1, a2]
  have e1 : (s.toNat == 1) = s := by cases s <;> rfl
  have e2 : 2 ^ 52 + (k - 2 ^ 52) = k := by omega
  rw [e1, e2]
  simp

theorem read_zero (s : Bool) : double.read (double.word s 0) = .number s 0 (-1074) := by cases s <;> decide

/-- WHAT IS WRITTEN IS EXACT. -/
theorem write_is {d : Datum} {v : Int} (h : IsD d v) (hv : v.natAbs < 2 ^ 53) : IsF (double.write d) v := by
  obtain ⟨s, m, i, rfl, k, hk, h3⟩ := h
  have habs : m * 2 ^ k = v.natAbs * 2 ^ (E1 + E2) := by
    have := congrArg Int.natAbs h3
    rwa [sg_abs, Int.natAbs_mul, Int.natAbs_natCast] at this
  by_cases hm : m = 0
  · subst hm
    have hv0 : v = 0 := by
      rw [Nat.zero_mul] at habs
      have := pow_pos2 (E1 + E2)
      rcases Nat.mul_eq_zero.1 habs.symm with h | h <;> omega
    subst hv0
    refine ⟨s, 0, -1074, ?_, 0, by simp [E2], by cases s <;> simp [sg]⟩
    show double.read (double.nearest s 0 i) = _
    unfold Format.nearest
    rw [if_pos rfl]
    exact read_zero s
  · have ha : v.natAbs ≠ 0 := by
      intro h0
      rw [h0, Nat.zero_mul] at habs
      have := pow_pos2 k
      rcases Nat.mul_eq_zero.1 habs with h | h <;> omega
    have hl := log2_shift hm ha habs
    have hl52 : v.natAbs.log2 < 53 := (Nat.log2_lt ha).2 hv
    generalize hL : m.log2 = L at *
    generalize hA : v.natAbs.log2 = l at *
    have hE1 : E1 = 1064 := rfl
    have hE2 : E2 = 1074 := rfl
    have hlast : max (i + (L : Int) - (52 : Nat)) (-1074) = (l : Int) - 62 := by omega
    -- what is kept
    have hkept : ∃ q, Toward.even.cut s (m <<< (i - ((l : Int) - 62)).toNat) (((l : Int) - 62) - i).toNat = q ∧ q * 2 ^ L = m * 2 ^ 52 := by
      by_cases hL52 : L ≤ 52
      · refine ⟨m * 2 ^ (52 - L), ?_, ?_⟩
        · have e1 : (i - ((l : Int) - 62)).toNat = 52 - L := by omega
          have e2 : (((l : Int) - 62) - i).toNat = 0 := by omega
          rw [e1, e2, cut_zero, Nat.shiftLeft_eq]
        · rw [Nat.mul_assoc, ← Nat.pow_add]
          congr 2; omega
      · have e1 : (i - ((l : Int) - 62)).toNat = 0 := by omega
        have e2 : (((l : Int) - 62) - i).toNat = L - 52 := by omega
        have hk2 : k ≤ E1 + E2 := by
          apply Classical.byContradiction
          intro hc
          have : m * 2 ^ (k - (E1 + E2)) = v.natAbs := by
            have e : k = (k - (E1 + E2)) + (E1 + E2) := by omega
            rw [e, Nat.pow_add, ← Nat.mul_assoc] at habs
            exact Nat.eq_of_mul_eq_mul_right (pow_pos2 _) habs
          have h1 : m ≤ v.natAbs := by rw [← this]; exact Nat.le_mul_of_pos_right _ (pow_pos2 _)
          have h2 : m < 2 ^ 53 := Nat.lt_of_le_of_lt h1 hv
          have h3 := (Nat.log2_lt hm).2 h2
          omega
        have hmm : m = v.natAbs * 2 ^ (E1 + E2 - k) := by
          have e : E1 + E2 = (E1 + E2 - k) + k := by omega
          rw [e, Nat.pow_add, ← Nat.mul_assoc] at habs
          have := Nat.eq_of_mul_eq_mul_right (pow_pos2 _) habs
          exact this
        have hdvd : m % 2 ^ (L - 52) = 0 := by
          have e : E1 + E2 - k = (E1 + E2 - k - (L - 52)) + (L - 52) := by omega
          rw [e, Nat.pow_add, ← Nat.mul_assoc] at hmm
          rw [hmm]
          exact Nat.mul_mod_left _ _
        refine ⟨m / 2 ^ (L - 52), ?_, ?_⟩
        · rw [e1, e2, Nat.shiftLeft_zero]
          exact cut_exact _ s m (L - 52) hm (by omega) hdvd
        · have e : L = (L - 52) + 52 := by omega
          have hd := Nat.div_mul_cancel (Nat.dvd_of_mod_eq_zero hdvd)
          calc m / 2 ^ (L - 52) * 2 ^ L = m / 2 ^ (L - 52) * 2 ^ ((L - 52) + 52) := by rw [← e]
            _ = m * 2 ^ 52 := by rw [Nat.pow_add, ← Nat.mul_assoc, hd]
    obtain ⟨q, hq, hqL⟩ := hkept
    have hb1 : 2 ^ L ≤ m := (Nat.le_log2 hm).1 (by omega)
    have hb2 : m < 2 ^ (L + 1) := (Nat.log2_lt hm).1 (by omega)
    have hq1 : 2 ^ 52 ≤ q := by
      apply Nat.le_of_mul_le_mul_right (c := 2 ^ L) _ (pow_pos2 L)
      rw [hqL, Nat.mul_comm]
      exact Nat.mul_le_mul_right _ hb1
    have hq2 : q < 2 ^ 53 := by
      apply Nat.lt_of_mul_lt_mul_right (a := 2 ^ L)
      rw [hqL]
      rw [Nat.pow_succ] at hb2
      omega
    refine ⟨s, q, -1074 + ((l + 1012 : Nat) : Int), ?_, l + 1012, by simp only [E2]; omega, ?_⟩
    · show double.read (double.nearest s m i) = _
      have hf : double.fractionBits = 52 := rfl
      unfold Format.nearest
      simp only [if_neg hm, hL, least_eq, hf, hlast, hq]
      have e : ((l : Int) - 62 - -1074).toNat = l + 1012 := by omega
      rw [e]
      exact read_word s (l + 1012) q (by omega) hq1 hq2
    · -- the value
      have hx : q * 2 ^ (l + 1012) * 2 ^ (E1 + 62) = v.natAbs * 2 ^ E1 * 2 ^ (E1 + 62) := by
        have h1 : q * 2 ^ (L + k) = m * 2 ^ k * 2 ^ 52 := by
          rw [Nat.pow_add, ← Nat.mul_assoc, hqL, Nat.mul_assoc, Nat.mul_comm (2 ^ 52), ← Nat.mul_assoc]
        rw [habs] at h1
        have e1 : L + k = (l + 1012) + (E1 + 62) := by omega
        have e2 : E1 + E2 + 52 = E1 + (E1 + 62) := by omega
        rw [Nat.mul_assoc, ← Nat.pow_add, ← e1, h1, Nat.mul_assoc, ← Nat.pow_add, e2, Nat.pow_add, Nat.mul_assoc]
      have hy := Nat.eq_of_mul_eq_mul_right (pow_pos2 _) hx
      have hz : sg s (m * 2 ^ k) = sg s (v.natAbs) * ((2 ^ (E1 + E2) : Nat) : Int) := by rw [habs, sg_mul]
      rw [h3] at hz
      have hp : ((2 ^ (E1 + E2) : Nat) : Int) ≠ 0 := by have := pow_pos2 (E1 + E2); omega
      have hs := (Int.eq_of_mul_eq_mul_right hp hz).symm
      rw [hy, sg_mul, hs]
end Go.Proofs.Ytdbokmhkgkgnfaa
