/- PLAIN FACTS FOR LAYER 3: how often one number goes into another one, bit by bit. -/
import Derived.Test.YtggemncdnclhnaaBigLen
namespace Go.Proofs.Ytggemncdnclhnaa
open Go.RowKit
set_option linter.unusedVariables false
set_option linter.unusedSimpArgs false

def overQ (a b : Nat) : Nat := if b = 0 then 0 else a / b
def overR (a b : Nat) : Nat := if b = 0 then 0 else a % b
def overE (b : Nat) : Int := if b = 0 then 2 else 0

/-- What holds with n steps to go: c is left, t is how often b went in. -/
def Going (a b n c t : Nat) : Prop := c < b * 2 ^ n ∧ t * b + c = a ∧ t % 2 ^ n = 0 ∧ t < top ∧ c ≤ a ∧ (n = 0 ∨ n + blen b ≤ blen a + 1)
theorem Going.start (a b : Nat) (hb : b ≠ 0) (h : blen b ≤ blen a) : Going a b (blen a - blen b + 1) a 0 := by
  refine ⟨?_, by omega, Nat.zero_mod _, by decide, Nat.le_refl _, .inr (by omega)⟩
  have h1 := blen_spec a
  have h2 := blen_low b hb
  have hb1 : 1 ≤ blen b := by unfold blen; rw [if_neg hb]; omega
  have : 2 ^ blen a = 2 ^ (blen b - 1) * 2 ^ (blen a - blen b + 1) := by rw [← Nat.pow_add]; congr 1; omega
  calc a < 2 ^ blen a := h1
    _ = 2 ^ (blen b - 1) * 2 ^ (blen a - blen b + 1) := this
    _ ≤ b * 2 ^ (blen a - blen b + 1) := Nat.mul_le_mul_right _ h2
theorem Going.none (a b : Nat) (hb : b ≠ 0) (h : blen a < blen b) : a < b := by
  have h1 := blen_spec a
  have h2 := blen_low b hb
  have : 2 ^ blen a ≤ 2 ^ (blen b - 1) := Nat.pow_le_pow_right (by decide) (by omega)
  omega
theorem Going.small {a b n c t : Nat} (h : Going a b (n + 1) c t) (hb : b ≠ 0) (ha : a < top) : b * 2 ^ n < top := by
  obtain ⟨_, _, _, _, _, h6⟩ := h
  have h1 := blen_spec b
  have ha2 : blen a ≤ 256 := by
    rcases Nat.lt_or_ge 256 (blen a) with hl | hl
    · have ha0 : a ≠ 0 := by rintro rfl; rw [blen_zero] at hl; omega
      have := blen_low a ha0
      have h3 : 2 ^ 256 ≤ 2 ^ (blen a - 1) := Nat.pow_le_pow_right (by decide) (by omega)
      rw [← top_eq] at h3
      omega
    · exact hl
  have : b * 2 ^ n < 2 ^ blen b * 2 ^ n := Nat.mul_lt_mul_of_pos_right h1 (Nat.pow_pos (by omega))
  rw [← Nat.pow_add] at this
  have h3 : 2 ^ (blen b + n) ≤ 2 ^ 256 := Nat.pow_le_pow_right (by decide) (by omega)
  rw [top_eq]
  omega
theorem Going.less {a b n c t : Nat} (h : Going a b (n + 1) c t) (hl : c < b * 2 ^ n) : Going a b n c t := by
  obtain ⟨_, h2, h3, h4, h5, h6⟩ := h
  refine ⟨hl, h2, ?_, h4, h5, by omega⟩
  rw [Nat.pow_succ] at h3
  have := Nat.mod_mul_right_mod t (2 ^ n) 2
  rw [h3, Nat.zero_mod] at this
  exact this.symm
theorem Going.more {a b n c t : Nat} (h : Going a b (n + 1) c t) (hb : b ≠ 0) (ha : a < top) (hl : b * 2 ^ n ≤ c) : Going a b n (c - b * 2 ^ n) (t + 2 ^ n) := by
  obtain ⟨h1, h2, h3, h4, h5, h6⟩ := h
  have e : (t + 2 ^ n) * b + (c - b * 2 ^ n) = a := by
    rw [Nat.add_mul, Nat.mul_comm (2 ^ n) b]; omega
  refine ⟨?_, e, ?_, ?_, by omega, by omega⟩
  · rw [Nat.pow_succ, ← Nat.mul_assoc] at h1
    omega
  · rw [Nat.pow_succ] at h3
    have := Nat.mod_mul_right_mod t (2 ^ n) 2
    rw [h3, Nat.zero_mod] at this
    rw [Nat.add_mod_right]; exact this.symm
  · have : (t + 2 ^ n) * 1 ≤ (t + 2 ^ n) * b := Nat.mul_le_mul_left _ (by omega)
    omega
theorem Going.done {a b c t : Nat} (h : Going a b 0 c t) : t = a / b ∧ c = a % b := by
  obtain ⟨h1, h2, _⟩ := h
  rw [Nat.pow_zero, Nat.mul_one] at h1
  have h3 : b ≠ 0 := by omega
  rw [← h2]
  constructor
  · rw [Nat.add_comm, Nat.add_mul_div_right _ _ (by omega), Nat.div_eq_of_lt h1, Nat.zero_add]
  · rw [Nat.add_comm, Nat.add_mul_mod_self_right, Nat.mod_eq_of_lt h1]
theorem Going.n_lt {a b n c t : Nat} (h : Going a b (n + 1) c t) (hb : b ≠ 0) (ha : a < top) : n < 256 := by
  have := h.small hb ha
  rcases Nat.lt_or_ge n 256 with hl | hl
  · exact hl
  · have h3 : 2 ^ 256 ≤ 2 ^ n := Nat.pow_le_pow_right (by decide) hl
    rw [← top_eq] at h3
    have : 1 * 2 ^ n ≤ b * 2 ^ n := Nat.mul_le_mul_right _ (by omega)
    omega

theorem low_bit (u p : Nat) (hp : p < 64) (h : u % 2 ^ (p + 1) = 0) : u % 18446744073709551616 + 2 ^ p < 18446744073709551616 ∧ (u + 2 ^ p) / 18446744073709551616 = u / 18446744073709551616 := by
  have hs : (18446744073709551616 : Nat) = 2 ^ (p + 1) * 2 ^ (63 - p) := by rw [← Nat.pow_add, show p + 1 + (63 - p) = 64 by omega]
  have hpp : 0 < 2 ^ p := Nat.pow_pos (by omega)
  have hm : u % 18446744073709551616 % 2 ^ (p + 1) = 0 := by rw [hs, Nat.mod_mul_right_mod, h]
  have hl : u % 18446744073709551616 < 18446744073709551616 := Nat.mod_lt _ (by decide)
  have hd := Nat.mod_add_div u 18446744073709551616
  generalize u % 18446744073709551616 = v at *
  have hv := Nat.mod_add_div v (2 ^ (p + 1))
  rw [hm, Nat.zero_add] at hv
  have h1 : v / 2 ^ (p + 1) < 2 ^ (63 - p) := by
    rw [Nat.div_lt_iff_lt_mul (Nat.pow_pos (by omega)), Nat.mul_comm, ← hs]; exact hl
  have h2 : 2 ^ (p + 1) * (v / 2 ^ (p + 1) + 1) ≤ 2 ^ (p + 1) * 2 ^ (63 - p) := Nat.mul_le_mul_left _ h1
  rw [← hs, Nat.mul_add, hv, Nat.mul_one, Nat.pow_succ] at h2
  have h3 : v + 2 ^ p < 18446744073709551616 := by omega
  refine ⟨h3, ?_⟩
  rw [← hd, show v + 18446744073709551616 * (u / 18446744073709551616) + 2 ^ p = (v + 2 ^ p) + 18446744073709551616 * (u / 18446744073709551616) by omega, Nat.add_mul_div_left _ _ (by decide), Nat.add_mul_div_left _ _ (by decide), Nat.div_eq_of_lt h3, Nat.div_eq_of_lt hl]
/-- A bit that is set: the limb it lies in; the others stay. -/
theorem bit_lim (t n q p : Nat) (hn : n = 64 * q + p) (hp : p < 64) (h : t % 2 ^ (n + 1) = 0) (i : Nat) :
    lim (t + 2 ^ n) i = if i = q then lim t q + 2 ^ p else lim t i := by
  subst hn
  have e1 : t = 2 ^ (64 * q + p + 1) * (t / 2 ^ (64 * q + p + 1)) := by have := Nat.mod_add_div t (2 ^ (64 * q + p + 1)); omega
  generalize t / 2 ^ (64 * q + p + 1) = d at *
  have e2 : t = 2 ^ (p + 1) * d * 2 ^ (64 * q) := by
    rw [e1, show 64 * q + p + 1 = (p + 1) + 64 * q by omega, Nat.pow_add, Nat.mul_right_comm]
  have hu : 2 ^ (p + 1) * d % 2 ^ (p + 1) = 0 := Nat.mul_mod_right _ _
  generalize 2 ^ (p + 1) * d = u at *
  have e3 : t + 2 ^ (64 * q + p) = (u + 2 ^ p) * 2 ^ (64 * q) := by
    rw [e2, Nat.add_mul, ← Nat.pow_add, Nat.add_comm p]
  rw [e3, e2]
  obtain ⟨b1, b2⟩ := low_bit u p hp hu
  by_cases hi : i < q
  · rw [if_neg (by omega), lim_under _ _ _ hi, lim_under _ _ _ hi]
  · obtain ⟨j, rfl⟩ : ∃ j, i = q + j := ⟨i - q, by omega⟩
    rw [lim_up, lim_up]
    have hz := lim_up u q 0
    rw [Nat.add_zero] at hz
    rw [hz]
    by_cases hj : j = 0
    · subst hj
      rw [if_pos (by omega), lim0, lim0, Nat.add_mod]
      have : 2 ^ p % 18446744073709551616 = 2 ^ p := Nat.mod_eq_of_lt (by omega)
      rw [this, Nat.mod_eq_of_lt b1]
    · rw [if_neg (by omega)]
      obtain ⟨k, rfl⟩ : ∃ k, j = k + 1 := ⟨j - 1, by omega⟩
      unfold lim
      have e : (2 : Nat) ^ (64 * (k + 1)) = 18446744073709551616 * 2 ^ (64 * k) := by rw [show 64 * (k + 1) = 64 + 64 * k by omega, Nat.pow_add]
      rw [e, ← Nat.div_div_eq_div_mul, b2, Nat.div_div_eq_div_mul]
theorem bit_or (t n q p : Nat) (hn : n = 64 * q + p) (hp : p < 64) (h : t % 2 ^ (n + 1) = 0) :
    bits .or .u64 (lim t q : Int) (IntKind.u64.wrap (1 * 2 ^ p)) = (lim (t + 2 ^ n) q : Int) := by
  rw [bit_lim t n q p hn hp h q, if_pos rfl]
  have hlt : 2 ^ p < 18446744073709551616 := by
    have : (2 : Nat) ^ p < 2 ^ 64 := Nat.pow_lt_pow_right (by decide) hp
    simpa using this
  have e : IntKind.u64.wrap (1 * 2 ^ p) = ((2 ^ p : Nat) : Int) := by
    have := wrap_pow 1 p
    rw [show ((1 : Nat) : Int) = 1 from rfl] at this
    rw [this, Nat.one_mul, Nat.mod_eq_of_lt hlt]
  rw [e, u64_or_nat _ _ (lim_lt t q) hlt]
  congr 1
  rw [nat_join (p + 1) _ _ ?_ (Nat.pow_lt_pow_right (by decide) (by omega))]
  -- the limb is a multiple of 2 ^ (p + 1)
  subst hn
  have e1 : t = 2 ^ (64 * q + p + 1) * (t / 2 ^ (64 * q + p + 1)) := by have := Nat.mod_add_div t (2 ^ (64 * q + p + 1)); omega
  generalize t / 2 ^ (64 * q + p + 1) = d at *
  have e2 : t = 2 ^ (p + 1) * d * 2 ^ (64 * q) := by
    rw [e1, show 64 * q + p + 1 = (p + 1) + 64 * q by omega, Nat.pow_add, Nat.mul_right_comm]
  have hz := lim_up (2 ^ (p + 1) * d) q 0
  simp only [Nat.add_zero] at hz
  rw [e2, hz, lim0, show (18446744073709551616 : Nat) = 2 ^ (p + 1) * 2 ^ (63 - p) by rw [← Nat.pow_add, show p + 1 + (63 - p) = 64 by omega], Nat.mul_mod_mul_left, Nat.mul_mod_right]
end Go.Proofs.Ytggemncdnclhnaa
