/- PLAIN FACTS: a number of two digits of 64 bits, divided by one (the way of halves). -/
import Derived.Test.YtggemncdnclhnaaBigPure2
import Derived.Laws.BitsAllLaws
namespace Go.Proofs.Ytggemncdnclhnaa
open Go.RowKit
set_option linter.unusedVariables false
set_option linter.unusedSimpArgs false

/-- q and r while the digit of (u, d) by y = (p, t) is looked for: q is not too small. -/
structure Est (u d p t y q r : Nat) : Prop where
  yes : y = p * 4294967296 + t
  ht : t < 4294967296
  hu : u < y
  hd : d < 4294967296
  sum : q * p + r = u
  low : (u * 4294967296 + d) / y ≤ q
theorem Est.pos {u d p t y q r : Nat} (h : Est u d p t y q r) : 0 < y := by have := h.hu; omega
theorem Est.start {u d p t y : Nat} (hy : y = p * 4294967296 + t) (ht : t < 4294967296) (hu : u < y) (hd : d < 4294967296) (hp : 0 < p) : Est u d p t y (u / p) (u % p) := by
  refine ⟨hy, ht, hu, hd, by rw [Nat.mul_comm]; exact Nat.div_add_mod u p, ?_⟩
  rw [Nat.le_div_iff_mul_le hp]
  have h1 := Nat.div_mul_le_self (u * 4294967296 + d) y
  generalize (u * 4294967296 + d) / y = Q at *
  rw [hy, Nat.mul_add, ← Nat.mul_assoc] at h1
  generalize Q * p = z at *
  omega
theorem Est.digit {u d p t y q r : Nat} (h : Est u d p t y q r) : (u * 4294967296 + d) / y < 4294967296 := by
  rw [Nat.div_lt_iff_lt_mul h.pos]
  have h1 := h.hu
  have h2 := h.hd
  have h3 : (u + 1) * 4294967296 ≤ y * 4294967296 := Nat.mul_le_mul_right _ h1
  rw [Nat.mul_comm 4294967296 y]
  omega
theorem Est.down {u d p t y q r : Nat} (h : Est u d p t y q r) (hc : 4294967296 ≤ q ∨ 4294967296 * r + d < q * t) : Est u d p t y (q - 1) (r + p) := by
  have hq : (u * 4294967296 + d) / y + 1 ≤ q := by
    rcases hc with hc | hc
    · have := h.digit; omega
    · have hs := h.sum
      have hpos := h.pos
      have hy := h.yes
      have hm : (u * 4294967296 + d) / y < q := by
        rw [Nat.div_lt_iff_lt_mul hpos, hy, Nat.mul_add, ← Nat.mul_assoc]
        clear hpos hy h
        generalize q * p = z at *
        generalize q * t = z2 at *
        omega
      exact hm
  refine ⟨h.yes, h.ht, h.hu, h.hd, ?_, Nat.le_sub_one_of_lt hq⟩
  have hs := h.sum
  obtain ⟨k, rfl⟩ : ∃ k, q = k + 1 := ⟨q - 1, by have := Nat.le_trans (Nat.le_add_left 1 _) hq; omega⟩
  rw [Nat.add_mul, Nat.one_mul] at hs
  rw [Nat.add_sub_cancel]
  omega
theorem Est.found {u d p t y q r : Nat} (h : Est u d p t y q r) (hc : q * t ≤ 4294967296 * r + d) : q = (u * 4294967296 + d) / y := by
  refine Nat.le_antisymm ?_ h.low
  rw [Nat.le_div_iff_mul_le h.pos, h.yes, Nat.mul_add, ← Nat.mul_assoc]
  have hs := h.sum
  clear h
  generalize q * p = z at *
  generalize q * t = z2 at *
  omega
theorem Est.broken {u d p t y q r : Nat} (h : Est u d p t y q r) (hr : 4294967296 ≤ r) : q = (u * 4294967296 + d) / y := by
  refine h.found ?_
  have hq : q < 4294967296 := by
    refine Nat.lt_of_not_le fun hge => ?_
    have hs := h.sum
    have hu := h.hu
    have ht := h.ht
    have hm : 4294967296 * p ≤ q * p := Nat.mul_le_mul_right _ hge
    rw [h.yes, Nat.mul_comm p] at hu
    omega
  have h1 : q * t ≤ 4294967296 * 4294967296 := Nat.mul_le_mul (Nat.le_of_lt hq) (Nat.le_of_lt h.ht)
  have h2 : 4294967296 * 4294967296 ≤ 4294967296 * r := Nat.mul_le_mul_left _ hr
  exact Nat.le_trans h1 (Nat.le_trans h2 (Nat.le_add_right _ _))
theorem two_digits (A d y : Nat) : (A * 4294967296 + d) / y = A / y * 4294967296 + (A % y * 4294967296 + d) / y ∧ (A * 4294967296 + d) % y = (A % y * 4294967296 + d) % y := by
  have h := Nat.div_add_mod A y
  rcases Nat.eq_zero_or_pos y with rfl | hy
  · simp
  · have e : A * 4294967296 + d = (A % y * 4294967296 + d) + y * (A / y * 4294967296) := by
      have h2 : A * 4294967296 = (y * (A / y) + A % y) * 4294967296 := by rw [h]
      rw [h2, Nat.add_mul, Nat.mul_assoc, Nat.add_comm (y * _), Nat.add_right_comm]
    have e1 : (A * 4294967296 + d) / y = (A % y * 4294967296 + d + y * (A / y * 4294967296)) / y := congrArg (· / y) e
    have e2 : (A * 4294967296 + d) % y = (A % y * 4294967296 + d + y * (A / y * 4294967296)) % y := congrArg (· % y) e
    rw [e1, e2, Nat.add_mul_div_left _ _ hy, Nat.add_mul_mod_self_left, Nat.add_comm]
    exact ⟨rfl, rfl⟩
/-- What is moved up by s bits, in three digits. -/
theorem moved_up (hi lo s : Nat) (hs : s ≤ 64) : (hi * 18446744073709551616 + lo) * 2 ^ s = ((hi * 2 ^ s + lo / 2 ^ (64 - s)) * 4294967296 + lo * 2 ^ s % 18446744073709551616 / 4294967296) * 4294967296 + lo * 2 ^ s % 18446744073709551616 % 4294967296 := by
  have e : lo / 2 ^ (64 - s) = lo * 2 ^ s / 18446744073709551616 := by
    have hp := pow_split hs
    rw [hp, Nat.mul_div_mul_right _ _ (Nat.pow_pos (by decide))]
  rw [e, Nat.add_mul, Nat.mul_right_comm]
  generalize hi * 2 ^ s = x
  generalize lo * 2 ^ s = z
  omega
theorem div_moved (n y s : Nat) : n * 2 ^ s / (y * 2 ^ s) = n / y ∧ n * 2 ^ s % (y * 2 ^ s) / 2 ^ s = n % y := by
  refine ⟨Nat.mul_div_mul_right _ _ (Nat.pow_pos (by decide)), ?_⟩
  rw [Nat.mul_mod_mul_right, Nat.mul_div_cancel _ (Nat.pow_pos (by decide))]
end Go.Proofs.Ytggemncdnclhnaa
