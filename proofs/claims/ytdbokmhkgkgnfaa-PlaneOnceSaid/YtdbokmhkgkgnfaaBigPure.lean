/- PLAIN FACTS FOR LAYER 3: a number of 256 bits in four limbs. -/
import Derived.Test.YtdbokmhkgkgnfaaRows
import Derived.Test.YtdbokmhkgkgnfaaBytes
import Derived.Laws.BitsAllLaws
namespace Go.Proofs.Ytdbokmhkgkgnfaa
open Go.RowKit
set_option linter.unusedVariables false
set_option linter.unusedSimpArgs false

/-- Limb i of n. -/
def lim (n i : Nat) : Nat := n / 2 ^ (64 * i) % 18446744073709551616
def top : Nat := 115792089237316195423570985008687907853269984665640564039457584007913129639936
theorem top_eq : top = 2 ^ 256 := by decide +kernel
/-- The cells of n. -/
def u4 (x0 x1 x2 x3 : Nat) : Array Value := #[.int .u64 (x0 : Int), .int .u64 (x1 : Int), .int .u64 (x2 : Int), .int .u64 (x3 : Int)]
def cel (n : Nat) : Array Value := #[.int .u64 (lim n 0 : Int), .int .u64 (lim n 1 : Int), .int .u64 (lim n 2 : Int), .int .u64 (lim n 3 : Int)]
abbrev U (n : Nat) : Value := .agg (cel n)

theorem lim_lt (n i : Nat) : lim n i < 18446744073709551616 := Nat.mod_lt _ (by decide)
theorem lim_le (n i : Nat) : ((lim n i : Nat) : Int) ≤ 18446744073709551615 := by have := lim_lt n i; omega
theorem lim0 (n : Nat) : lim n 0 = n % 18446744073709551616 := by simp [lim]
theorem lim1 (n : Nat) : lim n 1 = n / 18446744073709551616 % 18446744073709551616 := by simp [lim]
theorem lim2 (n : Nat) : lim n 2 = n / 340282366920938463463374607431768211456 % 18446744073709551616 := by simp [lim]
theorem lim3 (n : Nat) : lim n 3 = n / 6277101735386680763835789423207666416102355444464034512896 % 18446744073709551616 := by simp [lim]

theorem lim_all (n : Nat) (h : n < top) : n = lim n 0 + 18446744073709551616 * lim n 1 + 340282366920938463463374607431768211456 * lim n 2 + 6277101735386680763835789423207666416102355444464034512896 * lim n 3 := by
  rw [lim0, lim1, lim2, lim3]
  unfold top at h
  omega

/-- The number of four limbs. -/
def num4 (x0 x1 x2 x3 : Nat) : Nat := x0 + 18446744073709551616 * x1 + 340282366920938463463374607431768211456 * x2 + 6277101735386680763835789423207666416102355444464034512896 * x3
theorem num4_lt {x0 x1 x2 x3 : Nat} (h0 : x0 < 18446744073709551616) (h1 : x1 < 18446744073709551616) (h2 : x2 < 18446744073709551616) (h3 : x3 < 18446744073709551616) : num4 x0 x1 x2 x3 < top := by
  unfold num4 top; omega
theorem num4_lim {x0 x1 x2 x3 : Nat} (h0 : x0 < 18446744073709551616) (h1 : x1 < 18446744073709551616) (h2 : x2 < 18446744073709551616) (h3 : x3 < 18446744073709551616) :
    lim (num4 x0 x1 x2 x3) 0 = x0 ∧ lim (num4 x0 x1 x2 x3) 1 = x1 ∧ lim (num4 x0 x1 x2 x3) 2 = x2 ∧ lim (num4 x0 x1 x2 x3) 3 = x3 := by
  rw [lim0, lim1, lim2, lim3]; unfold num4; omega
theorem num4_cel {x0 x1 x2 x3 : Nat} (h0 : x0 < 18446744073709551616) (h1 : x1 < 18446744073709551616) (h2 : x2 < 18446744073709551616) (h3 : x3 < 18446744073709551616) :
    u4 x0 x1 x2 x3 = cel (num4 x0 x1 x2 x3) := by
  obtain ⟨e0, e1, e2, e3⟩ := num4_lim h0 h1 h2 h3
  unfold u4 cel
  rw [e0, e1, e2, e3]
theorem lim_inj {a b : Nat} (ha : a < top) (hb : b < top) (h0 : lim a 0 = lim b 0) (h1 : lim a 1 = lim b 1) (h2 : lim a 2 = lim b 2) (h3 : lim a 3 = lim b 3) : a = b := by
  rw [lim_all a ha, lim_all b hb, h0, h1, h2, h3]

/-- The carry into limb k of a sum. -/
def car (a b c k : Nat) : Nat := (a % 2 ^ (64 * k) + b % 2 ^ (64 * k) + c) / 2 ^ (64 * k)
theorem car0 (a b c : Nat) : car a b c 0 = c := by simp [car, Nat.mod_one]
theorem car_le (a b c k : Nat) (hc : c ≤ 1) : car a b c k ≤ 1 := by
  unfold car
  have hp : 0 < 2 ^ (64 * k) := Nat.pow_pos (by omega)
  have h1 := Nat.mod_lt a hp
  have h2 := Nat.mod_lt b hp
  generalize 2 ^ (64 * k) = m at *
  have : (a % m + b % m + c) / m < 2 := by rw [Nat.div_lt_iff_lt_mul hp]; omega
  omega
theorem mod_step (a m q : Nat) : a % (m * q) = a % m + m * (a / m % q) := Nat.mod_mul
theorem sum_step (a b c k : Nat) : lim (a + b + c) k = (lim a k + lim b k + car a b c k) % 18446744073709551616 ∧ car a b c (k + 1) = (lim a k + lim b k + car a b c k) / 18446744073709551616 := by
  unfold lim car
  have hp : 0 < 2 ^ (64 * k) := Nat.pow_pos (by omega)
  have e : 2 ^ (64 * (k + 1)) = 2 ^ (64 * k) * 18446744073709551616 := by rw [show 64 * (k + 1) = 64 * k + 64 by omega, Nat.pow_add]
  rw [e, mod_step, mod_step]
  generalize 2 ^ (64 * k) = m at *
  generalize 18446744073709551616 = q
  have ea : a = a % m + m * (a / m) := by have := Nat.mod_add_div a m; omega
  have eb : b = b % m + m * (b / m) := by have := Nat.mod_add_div b m; omega
  constructor
  · have : a + b + c = (a % m + b % m + c) + m * (a / m + b / m) := by rw [Nat.mul_add]; omega
    rw [this, Nat.add_mul_div_left _ _ hp, Nat.add_comm]
    simp [Nat.add_mod]
  · have : a % m + m * (a / m % q) + (b % m + m * (b / m % q)) + c = (a % m + b % m + c) + m * (a / m % q + b / m % q) := by rw [Nat.mul_add]; omega
    rw [this, ← Nat.div_div_eq_div_mul, Nat.add_mul_div_left _ _ hp, Nat.add_comm]

theorem halves (x y c : Nat) (hx : x < 18446744073709551616) (hy : y < 18446744073709551616) (hc : c ≤ 1) :
    bits .or .u64 (((x : Int) / 4294967296 + (y : Int) / 4294967296 + ((x : Int) % 4294967296 + (y : Int) % 4294967296 + (c : Int)) / 4294967296) * 4294967296 % 18446744073709551616) (((x : Int) % 4294967296 + (y : Int) % 4294967296 + (c : Int)) % 4294967296)
      = (((x + y + c) % 18446744073709551616 : Nat) : Int) := by
  have e1 : ((x : Int) / 4294967296 + (y : Int) / 4294967296 + ((x : Int) % 4294967296 + (y : Int) % 4294967296 + (c : Int)) / 4294967296) * 4294967296 % 18446744073709551616 = (((x / 4294967296 + y / 4294967296 + (x % 4294967296 + y % 4294967296 + c) / 4294967296) * 4294967296 % 18446744073709551616 : Nat) : Int) := by omega
  have e2 : ((x : Int) % 4294967296 + (y : Int) % 4294967296 + (c : Int)) % 4294967296 = (((x % 4294967296 + y % 4294967296 + c) % 4294967296 : Nat) : Int) := by omega
  rw [e1, e2, u64_or_nat _ _ (by omega) (by omega), nat_join 32 _ _ (by omega) (by omega)]
  congr 1
  omega
theorem carry_of (x y c : Nat) : ((x : Int) / 4294967296 + (y : Int) / 4294967296 + ((x : Int) % 4294967296 + (y : Int) % 4294967296 + (c : Int)) / 4294967296) / 4294967296 = (((x + y + c) / 18446744073709551616 : Nat) : Int) := by omega

theorem lim_mod (n : Nat) : lim (n % top) 0 = lim n 0 ∧ lim (n % top) 1 = lim n 1 ∧ lim (n % top) 2 = lim n 2 ∧ lim (n % top) 3 = lim n 3 := by
  rw [lim0, lim1, lim2, lim3, lim0, lim1, lim2, lim3]
  unfold top
  omega
def addN (a b : Nat) : Nat := (a + b) % top
def addB (a b : Nat) : Bool := decide (top ≤ a + b)
def subN (a b : Nat) : Nat := if b ≤ a then a - b else top + a - b
def subB (a b : Nat) : Bool := decide (a < b)
/-- All bits turned over. -/
def turnN (b : Nat) : Nat := top - 1 - b
theorem addN_lt (a b : Nat) : addN a b < top := Nat.mod_lt _ (by decide)
theorem subN_lt {a b : Nat} (ha : a < top) (hb : b < top) : subN a b < top := by unfold subN; split <;> omega
theorem car4 (a b c : Nat) : car a b c 4 = (a % top + b % top + c) / top := by unfold car; rw [show (2 : Nat) ^ (64 * 4) = top by decide +kernel]
theorem add_facts (a b : Nat) (ha : a < top) (hb : b < top) : lim (a + b + 0) 0 = lim (addN a b) 0 ∧ lim (a + b + 0) 1 = lim (addN a b) 1 ∧ lim (a + b + 0) 2 = lim (addN a b) 2 ∧ lim (a + b + 0) 3 = lim (addN a b) 3 ∧
    (((car a b 0 4 : Nat) : Int) != 0) = addB a b := by
  obtain ⟨e0, e1, e2, e3⟩ := lim_mod (a + b)
  refine ⟨e0.symm, e1.symm, e2.symm, e3.symm, ?_⟩
  rw [car4, Nat.mod_eq_of_lt ha, Nat.mod_eq_of_lt hb]
  unfold addB
  rw [Bool.eq_iff_iff]
  simp only [bne_iff_ne, decide_eq_true_eq, ne_eq]
  unfold top at *
  omega
theorem sub_facts (a b : Nat) (ha : a < top) (hb : b < top) : lim (a + turnN b + 1) 0 = lim (subN a b) 0 ∧ lim (a + turnN b + 1) 1 = lim (subN a b) 1 ∧ lim (a + turnN b + 1) 2 = lim (subN a b) 2 ∧ lim (a + turnN b + 1) 3 = lim (subN a b) 3 ∧
    (((car a (turnN b) 1 4 : Nat) : Int) == 0) = subB a b := by
  have e : (a + turnN b + 1) % top = subN a b := by
    unfold turnN subN
    split
    · rw [show a + (top - 1 - b) + 1 = (a - b) + top by omega, Nat.add_mod_right, Nat.mod_eq_of_lt (by omega)]
    · rw [show a + (top - 1 - b) + 1 = top + a - b by omega, Nat.mod_eq_of_lt (by omega)]
  obtain ⟨e0, e1, e2, e3⟩ := lim_mod (a + turnN b + 1)
  rw [e] at e0 e1 e2 e3
  refine ⟨e0.symm, e1.symm, e2.symm, e3.symm, ?_⟩
  have ht : turnN b < top := by unfold turnN; omega
  rw [car4, Nat.mod_eq_of_lt ha, Nat.mod_eq_of_lt ht]
  unfold subB turnN
  rw [Bool.eq_iff_iff]
  simp only [beq_iff_eq, decide_eq_true_eq]
  unfold top at *
  omega
theorem turn_lim (b : Nat) (hb : b < top) : lim (turnN b) 0 = 18446744073709551615 - lim b 0 ∧ lim (turnN b) 1 = 18446744073709551615 - lim b 1 ∧ lim (turnN b) 2 = 18446744073709551615 - lim b 2 ∧ lim (turnN b) 3 = 18446744073709551615 - lim b 3 := by
  rw [lim0, lim1, lim2, lim3, lim0, lim1, lim2, lim3]
  unfold turnN top at *
  omega
theorem turn_u64 (x : Nat) (hx : x < 18446744073709551616) : bits .xor .u64 18446744073709551615 (x : Int) = ((18446744073709551615 - x : Nat) : Int) := by
  have h := u64_andNot_nat 18446744073709551615 x (by omega) hx
  have e : (18446744073709551615 : Nat) ^^^ x = 18446744073709551615 - x := by
    rw [show (18446744073709551615 : Nat) = 2 ^ 64 - 1 by decide]
    apply Nat.eq_of_testBit_eq
    intro i
    rw [Nat.testBit_xor, Nat.testBit_two_pow_sub_one]
    rw [show 2 ^ 64 - 1 - x = 2 ^ 64 - (x + 1) by omega, Nat.testBit_two_pow_sub_succ (by omega)]
    by_cases hi : i < 64
    · simp [hi]
    · have : x.testBit i = false := Nat.testBit_lt_two_pow (Nat.lt_of_lt_of_le hx (Nat.pow_le_pow_right (by decide) (by omega) : 2 ^ 64 ≤ 2 ^ i))
      simp [hi, this]
  have := u64_xor_nat 18446744073709551615 x (by omega) hx
  rw [e] at this
  exact this
/-- A limb's product with a carry: the limb, and what is above. -/
def mlo (x n c : Nat) : Nat := (x * n + c) % 18446744073709551616
def mhi (x n c : Nat) : Nat := (x * n + c) / 18446744073709551616
def mulN (a n : Nat) : Nat := a * n % top
def mulH (a n : Nat) : Nat := a * n / top
/-- The carry into limb k of a product. -/
def mca (a n k : Nat) : Nat := a % 2 ^ (64 * k) * n / 2 ^ (64 * k)
theorem mca0 (a n : Nat) : mca a n 0 = 0 := by simp [mca, Nat.mod_one]
theorem mca4 (a n : Nat) (ha : a < top) : mca a n 4 = mulH a n := by unfold mca mulH; rw [show (2 : Nat) ^ (64 * 4) = top by decide +kernel, Nat.mod_eq_of_lt ha]
theorem mca_lt (a n k : Nat) (hn : n < 18446744073709551616) : mca a n k < 18446744073709551616 := by
  unfold mca
  have hp : 0 < 2 ^ (64 * k) := Nat.pow_pos (by omega)
  have h1 := Nat.mod_lt a hp
  generalize 2 ^ (64 * k) = m at *
  rw [Nat.div_lt_iff_lt_mul hp]
  calc a % m * n ≤ m * n := Nat.mul_le_mul_right _ (Nat.le_of_lt h1)
    _ < 18446744073709551616 * m := by rw [Nat.mul_comm]; exact Nat.mul_lt_mul_of_pos_right hn hp
theorem mul_step (a n k : Nat) : lim (a * n) k = mlo (lim a k) n (mca a n k) ∧ mca a n (k + 1) = mhi (lim a k) n (mca a n k) := by
  unfold lim mca mlo mhi
  have hp : 0 < 2 ^ (64 * k) := Nat.pow_pos (by omega)
  have e : 2 ^ (64 * (k + 1)) = 2 ^ (64 * k) * 18446744073709551616 := by rw [show 64 * (k + 1) = 64 * k + 64 by omega, Nat.pow_add]
  rw [e, mod_step]
  generalize 2 ^ (64 * k) = m at *
  generalize 18446744073709551616 = q
  have ea : a = a % m + m * (a / m) := by have := Nat.mod_add_div a m; omega
  constructor
  · have h2 : a * n = a % m * n + m * (a / m * n) := by
      have : a * n = (a % m + m * (a / m)) * n := by rw [← ea]
      rw [this, Nat.add_mul, Nat.mul_assoc]
    rw [h2, Nat.add_mul_div_left _ _ hp, Nat.add_comm]
    simp [Nat.add_mod, Nat.mul_mod]
  · rw [Nat.add_mul, ← Nat.div_div_eq_div_mul, Nat.mul_assoc, Nat.add_mul_div_left _ _ hp, Nat.add_comm]
theorem mul_lims (a n : Nat) : lim (a * n) 0 = lim (mulN a n) 0 ∧ lim (a * n) 1 = lim (mulN a n) 1 ∧ lim (a * n) 2 = lim (mulN a n) 2 ∧ lim (a * n) 3 = lim (mulN a n) 3 := by
  obtain ⟨e0, e1, e2, e3⟩ := lim_mod (a * n)
  exact ⟨e0.symm, e1.symm, e2.symm, e3.symm⟩
theorem less_facts (a b : Nat) : subB a b = decide (a < b) := rfl
end Go.Proofs.Ytdbokmhkgkgnfaa
