/- PLAIN FACTS FOR LAYER 3: moved numbers. -/
import Derived.Test.YtpgdfboogjapeaaDoorBigPure
namespace Go.Proofs.YtpgdfboogjapeaaDoor
open Go.RowKit
set_option linter.unusedVariables false
set_option linter.unusedSimpArgs false

theorem wrap_pow (x p : Nat) : IntKind.u64.wrap ((x : Int) * 2 ^ p) = ((x * 2 ^ p % 18446744073709551616 : Nat) : Int) := by
  rw [IntKind.wrap_u64, Int.natCast_emod, Int.natCast_mul, Int.natCast_pow]; rfl
theorem div_pow (x p : Nat) : (x : Int) / 2 ^ p = ((x / 2 ^ p : Nat) : Int) := by
  rw [Int.natCast_ediv, Int.natCast_pow]; rfl

theorem lim_up (x q j : Nat) : lim (x * 2 ^ (64 * q)) (q + j) = lim x j := by
  unfold lim
  rw [show 64 * (q + j) = 64 * j + 64 * q by omega, Nat.pow_add, Nat.mul_div_mul_right _ _ (Nat.pow_pos (by omega))]
theorem lim_under (x q i : Nat) (h : i < q) : lim (x * 2 ^ (64 * q)) i = 0 := by
  unfold lim
  obtain ⟨d, rfl⟩ : ∃ d, q = i + 1 + d := ⟨q - (i + 1), by omega⟩
  rw [show 64 * (i + 1 + d) = 64 * i + (64 + 64 * d) by omega, Nat.pow_add, Nat.mul_comm (2 ^ (64 * i)), ← Nat.mul_assoc, Nat.mul_div_cancel _ (Nat.pow_pos (by omega)), Nat.pow_add]
  rw [show x * (2 ^ 64 * 2 ^ (64 * d)) = 18446744073709551616 * (x * 2 ^ (64 * d)) by rw [show (2 : Nat) ^ 64 = 18446744073709551616 by decide, Nat.mul_left_comm]]
  exact Nat.mul_mod_right _ _
theorem lim_down (x q j : Nat) : lim (x / 2 ^ (64 * q)) j = lim x (q + j) := by
  unfold lim
  rw [Nat.div_div_eq_div_mul, ← Nat.pow_add, show 64 * q + 64 * j = 64 * (q + j) by omega]

theorem pow_split {p : Nat} (hp : p ≤ 64) : (18446744073709551616 : Nat) = 2 ^ (64 - p) * 2 ^ p := by
  rw [← Nat.pow_add, show 64 - p + p = 64 by omega]

theorem lim_shl0 (a p : Nat) : lim (a * 2 ^ p) 0 = lim a 0 * 2 ^ p % 18446744073709551616 := by
  rw [lim0, lim0]; simp [Nat.mul_mod]
theorem lim_shl (a p j : Nat) (hp : p ≤ 64) : lim (a * 2 ^ p) (j + 1) = (lim a (j + 1) * 2 ^ p % 18446744073709551616) ||| (lim a j / 2 ^ (64 - p)) := by
  have hs := pow_split hp
  have hpp : 0 < 2 ^ p := Nat.pow_pos (by omega)
  have hlt : lim a j / 2 ^ (64 - p) < 2 ^ p := by
    rw [Nat.div_lt_iff_lt_mul (Nat.pow_pos (by omega)), Nat.mul_comm, ← hs]
    exact lim_lt a j
  have hmod : lim a (j + 1) * 2 ^ p % 18446744073709551616 % 2 ^ p = 0 := by
    rw [hs, Nat.mod_mul_left_mod, Nat.mul_mod_left]
  rw [nat_join p _ _ hmod hlt]
  unfold lim at *
  have hQ : 0 < 18446744073709551616 := by decide
  have e : (2 : Nat) ^ (64 * (j + 1)) = 2 ^ (64 * j) * 18446744073709551616 := by rw [show 64 * (j + 1) = 64 * j + 64 by omega, Nat.pow_add]
  rw [e]
  have hm : 0 < 2 ^ (64 * j) := Nat.pow_pos (by omega)
  generalize 2 ^ (64 * j) = m at *
  generalize 18446744073709551616 = Q at *
  rw [← Nat.div_div_eq_div_mul, ← Nat.div_div_eq_div_mul]
  -- a = r + m * A
  have ha : a = a % m + m * (a / m) := by have := Nat.mod_add_div a m; omega
  generalize a / m = A at *
  generalize hr : a % m = r at *
  have hrm : r < m := by rw [← hr]; exact Nat.mod_lt _ hm
  have h1 : a * 2 ^ p / m = r * 2 ^ p / m + A * 2 ^ p := by
    rw [ha, Nat.add_mul, Nat.mul_assoc, Nat.add_mul_div_left _ _ hm]
  rw [h1]
  have h2 : r * 2 ^ p / m < 2 ^ p := by
    rw [Nat.div_lt_iff_lt_mul hm, Nat.mul_comm]
    exact Nat.mul_lt_mul_of_pos_left hrm hpp
  generalize r * 2 ^ p / m = u at *
  -- A = x + q * B
  have hA : A = A % Q + Q * (A / Q) := by have := Nat.mod_add_div A Q; omega
  have hx : A % Q < Q := Nat.mod_lt _ hQ
  generalize A / Q = B at *
  generalize A % Q = x at *
  have h3 : (u + A * 2 ^ p) / Q = x / 2 ^ (64 - p) + B * 2 ^ p := by
    have g1 : u + A * 2 ^ p = (u + x * 2 ^ p) + Q * (B * 2 ^ p) := by
      have : A * 2 ^ p = (x + Q * B) * 2 ^ p := by rw [← hA]
      rw [this, Nat.add_mul, Nat.mul_assoc, ← Nat.add_assoc]
    rw [g1, Nat.add_mul_div_left _ _ hQ]
    have g2 : (u + x * 2 ^ p) / Q = x / 2 ^ (64 - p) := by
      rw [hs, Nat.mul_comm (2 ^ (64 - p)) (2 ^ p), ← Nat.div_div_eq_div_mul, Nat.add_mul_div_right _ _ hpp, Nat.div_eq_of_lt h2, Nat.zero_add]
    rw [g2]
  rw [h3]
  have hz : x / 2 ^ (64 - p) < 2 ^ p := hlt
  generalize x / 2 ^ (64 - p) = z at *
  have h4 : B % Q * 2 ^ p % Q = B * 2 ^ p % Q := by simp [Nat.mul_mod]
  rw [h4]
  have h5 : B * 2 ^ p % Q = 2 ^ p * (B % 2 ^ (64 - p)) := by rw [hs, Nat.mul_comm B, Nat.mul_comm (2 ^ (64 - p)), Nat.mul_mod_mul_left]
  have h6 : 2 ^ p * (B % 2 ^ (64 - p)) + z < Q := by
    have hb : B % 2 ^ (64 - p) + 1 ≤ 2 ^ (64 - p) := Nat.mod_lt _ (Nat.pow_pos (by omega))
    have := Nat.mul_le_mul_left (2 ^ p) hb
    rw [Nat.mul_add, Nat.mul_comm (2 ^ p) (2 ^ (64 - p)), ← hs] at this
    omega
  rw [Nat.add_mod, h5]
  have hz2 : z % Q = z := Nat.mod_eq_of_lt (by omega)
  rw [hz2, Nat.mod_eq_of_lt (by omega), Nat.add_comm]

theorem lim_shr (a p j : Nat) (hp : p ≤ 64) : lim (a / 2 ^ p) j = (lim a j / 2 ^ p) ||| (lim a (j + 1) * 2 ^ (64 - p) % 18446744073709551616) := by
  have hs := pow_split hp
  have hpp : 0 < 2 ^ p := Nat.pow_pos (by omega)
  have hqp : 0 < 2 ^ (64 - p) := Nat.pow_pos (by omega)
  have hlt : lim a j / 2 ^ p < 2 ^ (64 - p) := by
    rw [Nat.div_lt_iff_lt_mul hpp, ← hs]
    exact lim_lt a j
  have hmod : lim a (j + 1) * 2 ^ (64 - p) % 18446744073709551616 % 2 ^ (64 - p) = 0 := by
    rw [hs, Nat.mod_mul_right_mod, Nat.mul_mod_left]
  rw [Nat.or_comm, nat_join (64 - p) _ _ hmod hlt]
  unfold lim at *
  have e : (2 : Nat) ^ (64 * (j + 1)) = 2 ^ (64 * j) * 18446744073709551616 := by rw [show 64 * (j + 1) = 64 * j + 64 by omega, Nat.pow_add]
  rw [e, ← Nat.div_div_eq_div_mul, Nat.div_div_eq_div_mul a (2 ^ p), Nat.mul_comm (2 ^ p), ← Nat.div_div_eq_div_mul]
  generalize a / 2 ^ (64 * j) = A at *
  generalize 18446744073709551616 = Q at *
  have hA : A = A % Q + Q * (A / Q) := by have := Nat.mod_add_div A Q; omega
  generalize A / Q = B at *
  generalize A % Q = x at *
  have h1 : A / 2 ^ p = x / 2 ^ p + 2 ^ (64 - p) * B := by
    rw [hA]
    rw [show Q * B = 2 ^ p * (2 ^ (64 - p) * B) by rw [hs, Nat.mul_comm (2 ^ (64 - p)) (2 ^ p), Nat.mul_assoc], Nat.add_mul_div_left _ _ hpp]
  rw [h1]
  have h4 : B % Q * 2 ^ (64 - p) % Q = B * 2 ^ (64 - p) % Q := by simp [Nat.mul_mod]
  rw [h4]
  have h5 : B * 2 ^ (64 - p) % Q = 2 ^ (64 - p) * (B % 2 ^ p) := by rw [hs, Nat.mul_comm B, Nat.mul_mod_mul_left]
  have h6 : 2 ^ (64 - p) * (B % 2 ^ p) + x / 2 ^ p < Q := by
    have hb : B % 2 ^ p + 1 ≤ 2 ^ p := Nat.mod_lt _ hpp
    have := Nat.mul_le_mul_left (2 ^ (64 - p)) hb
    rw [Nat.mul_add, ← hs] at this
    omega
  rw [h5, Nat.add_mod, show 2 ^ (64 - p) * B % Q = 2 ^ (64 - p) * (B % 2 ^ p) by rw [Nat.mul_comm (2 ^ (64 - p)) B, h5]]
  rw [Nat.mod_eq_of_lt (show x / 2 ^ p < Q by omega), Nat.mod_eq_of_lt (by omega), Nat.add_comm]

theorem shl_lo (a q p : Nat) : IntKind.u64.wrap ((lim a 0 : Int) * 2 ^ p) = (lim (a * 2 ^ (64 * q + p)) q : Int) := by
  rw [wrap_pow, ← lim_shl0]
  have := lim_up (a * 2 ^ p) q 0
  rw [show 64 * q + p = p + 64 * q by omega, Nat.pow_add, ← Nat.mul_assoc]
  rw [Nat.add_zero] at this
  rw [this]
theorem shl_hi (a q p j : Nat) (hp : p < 64) : bits .or .u64 (IntKind.u64.wrap ((lim a (j + 1) : Int) * 2 ^ p)) ((lim a j : Int) / 2 ^ (64 - p)) = (lim (a * 2 ^ (64 * q + p)) (q + (j + 1)) : Int) := by
  rw [wrap_pow, div_pow, u64_or_nat _ _ (Nat.mod_lt _ (by decide)) (Nat.lt_of_le_of_lt (Nat.div_le_self _ _) (lim_lt a j)), ← lim_shl a p j (by omega)]
  rw [show 64 * q + p = p + 64 * q by omega, Nat.pow_add, ← Nat.mul_assoc, lim_up]
theorem shl_zero (a q p i : Nat) (h : i < q) : lim (a * 2 ^ (64 * q + p)) i = 0 := by
  rw [show 64 * q + p = p + 64 * q by omega, Nat.pow_add, ← Nat.mul_assoc, lim_under _ _ _ h]
theorem lim_high (a i : Nat) (ha : a < top) (hi : 4 ≤ i) : lim a i = 0 := by
  unfold lim
  have : a < 2 ^ (64 * i) := Nat.lt_of_lt_of_le (by rw [← top_eq]; exact ha) (Nat.pow_le_pow_right (by decide) (by omega : 256 ≤ 64 * i))
  rw [Nat.div_eq_of_lt this]
theorem shr_hi (a q p j : Nat) (hp : p < 64) : bits .or .u64 ((lim a (q + j) : Int) / 2 ^ p) (IntKind.u64.wrap ((lim a (q + (j + 1)) : Int) * 2 ^ (64 - p))) = (lim (a / 2 ^ (64 * q + p)) j : Int) := by
  rw [wrap_pow, div_pow, u64_or_nat _ _ (Nat.lt_of_le_of_lt (Nat.div_le_self _ _) (lim_lt a _)) (Nat.mod_lt _ (by decide))]
  rw [Nat.pow_add, ← Nat.div_div_eq_div_mul, lim_shr _ p j (by omega), lim_down, lim_down]
theorem shr_last (a q p j : Nat) (hp : p < 64) (ha : a < top) (h : q + j = 3) : (lim a (q + j) : Int) / 2 ^ p = (lim (a / 2 ^ (64 * q + p)) j : Int) := by
  rw [div_pow, Nat.pow_add, ← Nat.div_div_eq_div_mul, lim_shr _ p j (by omega), lim_down, lim_down, lim_high a (q + (j + 1)) ha (by omega)]
  simp
theorem shr_zero' (a n i : Nat) (ha : a < top) (h : 256 ≤ n) : lim (a / 2 ^ n) i = 0 := by
  have : a / 2 ^ n = 0 := Nat.div_eq_of_lt (Nat.lt_of_lt_of_le (by rw [← top_eq]; exact ha) (Nat.pow_le_pow_right (by decide) h))
  rw [this]; simp [lim]
theorem shr_zero (a q p i : Nat) (ha : a < top) (h : 4 ≤ q + i) : lim (a / 2 ^ (64 * q + p)) i = 0 := by
  unfold lim
  rw [Nat.div_div_eq_div_mul, ← Nat.pow_add]
  have : a < 2 ^ (64 * q + p + 64 * i) := Nat.lt_of_lt_of_le (by rw [← top_eq]; exact ha) (Nat.pow_le_pow_right (by decide) (by omega))
  rw [Nat.div_eq_of_lt this]
end Go.Proofs.YtpgdfboogjapeaaDoor
