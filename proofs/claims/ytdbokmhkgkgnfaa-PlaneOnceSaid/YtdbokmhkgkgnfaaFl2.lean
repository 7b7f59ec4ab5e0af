/- PLAIN: sums, products, order, parts without fraction, negation of words of binary64 that stand for whole multiples of 2^-10. -/
import Derived.Test.YtdbokmhkgkgnfaaFl1
namespace Go.Proofs.Ytdbokmhkgkgnfaa
open Go Ieee
set_option linter.unusedVariables false
set_option linter.unusedSimpArgs false

theorem sg_self (T : Int) (c : Bool) : sg (if T = 0 then c else decide (T < 0)) T.natAbs = T := by
  unfold sg
  by_cases h : T = 0
  · subst h; cases c <;> simp
  · rw [if_neg h]
    by_cases h2 : T < 0
    · simp only [h2, decide_true, if_true]; omega
    · simp only [h2, decide_false, Bool.false_eq_true, if_false]; omega

theorem sum_is {d e : Datum} {v u : Int} (hx : IsD d v) (hy : IsD e u) : ∃ r, d.sum e = some r ∧ IsD r (v + u) := by
  obtain ⟨s, m, i, rfl, k, hk, h3⟩ := hx
  obtain ⟨t, n, j, rfl, l, hl, h4⟩ := hy
  have hb : ∃ p : Nat, min i j + (2 * E2 : Nat) = p := ⟨min k l, by omega⟩
  obtain ⟨p, hp⟩ := hb
  refine ⟨_, rfl, _, _, _, rfl, p, hp, ?_⟩
  have e1 : (i - min i j).toNat + p = k := by omega
  have e2 : (j - min i j).toNat + p = l := by omega
  rw [sg_mul, sg_self, signed_sg, signed_sg, Int.add_mul, ← sg_mul, ← sg_mul, Nat.mul_assoc, Nat.mul_assoc, ← Nat.pow_add, ← Nat.pow_add, e1, e2, h3, h4, Int.add_mul]

theorem opp_is {d : Datum} {v : Int} (h : IsD d v) : IsD d.opposite (-v) := by
  obtain ⟨s, m, i, rfl, k, hk, h3⟩ := h
  exact ⟨!s, m, i, rfl, k, hk, by rw [sg_opp, h3, Int.neg_mul]⟩

def fadd (x y : Nat) : Nat := (double.add x y).getD 0
def fsub (x y : Nat) : Nat := (double.sub x y).getD 0
def fmul (x y : Nat) : Nat := (double.mul x y).getD 0

theorem add_is {x y : Nat} {v u : Int} (hx : IsF x v) (hy : IsF y u) (hb : (v + u).natAbs < 2 ^ 53) : double.add x y = some (fadd x y) ∧ IsF (fadd x y) (v + u) := by
  obtain ⟨r, h1, h2⟩ := sum_is hx.d hy.d
  have e : double.add x y = some (double.write r) := by unfold Format.add; rw [h1]; rfl
  have e2 : fadd x y = double.write r := by unfold fadd; rw [e]; rfl
  rw [e2]
  exact ⟨e, write_is h2 hb⟩
theorem sub_is {x y : Nat} {v u : Int} (hx : IsF x v) (hy : IsF y u) (hb : (v - u).natAbs < 2 ^ 53) : double.sub x y = some (fsub x y) ∧ IsF (fsub x y) (v - u) := by
  obtain ⟨r, h1, h2⟩ := sum_is hx.d (opp_is hy.d)
  have e : double.sub x y = some (double.write r) := by unfold Format.sub; rw [h1]; rfl
  have e2 : fsub x y = double.write r := by unfold fsub; rw [e]; rfl
  rw [e2]
  exact ⟨e, write_is h2 hb⟩

theorem mul_is {x y : Nat} {v u z : Int} (hx : IsF x v) (hy : IsF y u) (hz : v * u = z * 1024) (hb : z.natAbs < 2 ^ 53) : double.mul x y = some (fmul x y) ∧ IsF (fmul x y) z := by
  obtain ⟨s, m, i, h1, k, hk, h3⟩ := hx
  obtain ⟨t, n, j, h2, l, hl, h4⟩ := hy
  have e : double.mul x y = some (double.write (.number (s ^^ t) (m * n) (i + j))) := by unfold Format.mul; rw [h1, h2]; rfl
  have e2 : fmul x y = double.write (.number (s ^^ t) (m * n) (i + j)) := by unfold fmul; rw [e]; rfl
  rw [e2]
  refine ⟨e, write_is ⟨_, _, _, rfl, k + l, by omega, ?_⟩ hb⟩
  have e3 : m * n * 2 ^ (k + l) = (m * 2 ^ k) * (n * 2 ^ l) := by rw [Nat.pow_add]; ac_rfl
  rw [e3, sg_mul2, h3, h4]
  have e5 : v * ((2 ^ E1 : Nat) : Int) * (u * ((2 ^ E1 : Nat) : Int)) = v * u * (((2 ^ E1 : Nat) : Int) * ((2 ^ E1 : Nat) : Int)) := by generalize ((2 ^ E1 : Nat) : Int) = Q; ac_rfl
  rw [e5, hz]
  have e6 : ((2 ^ (E1 + E2) : Nat) : Int) = 1024 * (((2 ^ E1 : Nat) : Int) * ((2 ^ E1 : Nat) : Int)) := by
    have : E1 + E2 = 10 + (E1 + E1) := rfl
    rw [this, Nat.pow_add, Nat.pow_add, Int.natCast_mul, Int.natCast_mul, show ((2 ^ 10 : Nat) : Int) = 1024 from rfl]
  rw [e6, Int.mul_assoc]

theorem cmp_int (a b : Int) : compare a b = if a < b then .lt else if a = b then .eq else .gt := rfl
theorem order_is {x y : Nat} {v u : Int} (hx : IsF x v) (hy : IsF y u) : double.order x y = some (compare v u) := by
  obtain ⟨s, m, i, h1, k, hk, h3⟩ := hx
  obtain ⟨t, n, j, h2, l, hl, h4⟩ := hy
  unfold Format.order
  rw [h1, h2]
  show some (compare (signed s m (i - min i j).toNat) (signed t n (j - min i j).toNat)) = _
  have hb : ∃ p : Nat, min i j + (E2 : Nat) = p := ⟨min k l, by omega⟩
  obtain ⟨p, hp⟩ := hb
  have e1 : (i - min i j).toNat + p = k := by omega
  have e2 : (j - min i j).toNat + p = l := by omega
  rw [signed_sg, signed_sg]
  have f1 : sg s (m * 2 ^ (i - min i j).toNat) * ((2 ^ p : Nat) : Int) = v * ((2 ^ E1 : Nat) : Int) := by
    rw [← sg_mul, Nat.mul_assoc, ← Nat.pow_add, e1, h3]
  have f2 : sg t (n * 2 ^ (j - min i j).toNat) * ((2 ^ p : Nat) : Int) = u * ((2 ^ E1 : Nat) : Int) := by
    rw [← sg_mul, Nat.mul_assoc, ← Nat.pow_add, e2, h4]
  generalize sg s (m * 2 ^ (i - min i j).toNat) = a at *
  generalize sg t (n * 2 ^ (j - min i j).toNat) = b at *
  have p1 : (0 : Int) < ((2 ^ p : Nat) : Int) := by have := pow_pos2 p; omega
  have p2 : (0 : Int) < ((2 ^ E1 : Nat) : Int) := by have := pow_pos2 E1; omega
  generalize ((2 ^ p : Nat) : Int) = P at *
  generalize ((2 ^ E1 : Nat) : Int) = Q at *
  have lt : a < b ↔ v < u := by
    rw [← Int.mul_lt_mul_right p1, f1, f2, Int.mul_lt_mul_right p2]
  have eq : a = b ↔ v = u := by
    constructor
    · intro h; subst h; exact Int.eq_of_mul_eq_mul_right (by omega) (f1.symm.trans f2)
    · intro h; subst h; exact Int.eq_of_mul_eq_mul_right (by omega) (f1.trans f2.symm)
  rw [cmp_int, cmp_int]
  simp only [lt, eq]

theorem tdiv_sg (s : Bool) (a b : Nat) : Int.tdiv (sg s a) (b : Int) = sg s (a / b) := by
  cases s
  · simp [sg]
  · simp [sg, Int.neg_tdiv]

theorem int_is {w : Nat} {v : Int} (h : IsF w v) : ∃ s, (double.read w).integral .zero = .number s (v.natAbs / 1024) 0 ∧ sg s (v.natAbs / 1024) = Int.tdiv v 1024 := by
  obtain ⟨s, m, i, h1, k, hk, h3⟩ := h
  have habs : m * 2 ^ k = v.natAbs * 2 ^ E1 := by
    have := congrArg Int.natAbs h3
    rwa [sg_abs, Int.natAbs_mul, Int.natAbs_natCast] at this
  have hv : v = sg s v.natAbs := by
    have hz : sg s (m * 2 ^ k) = sg s (v.natAbs) * ((2 ^ E1 : Nat) : Int) := by rw [habs, sg_mul]
    rw [h3] at hz
    exact Int.eq_of_mul_eq_mul_right (by have := pow_pos2 E1; omega) hz
  have hE1 : E1 = 1064 := rfl
  have hE2 : E2 = 1074 := rfl
  have hcut : Toward.cut .zero s (m <<< i.toNat) (-i).toNat = v.natAbs / 1024 := by
    by_cases hi : 0 ≤ i
    · have e1 : (-i).toNat = 0 := by omega
      rw [e1, cut_zero, Nat.shiftLeft_eq]
      have e2 : k = i.toNat + 10 + E1 := by omega
      rw [e2, Nat.pow_add, ← Nat.mul_assoc] at habs
      have := Nat.eq_of_mul_eq_mul_right (pow_pos2 _) habs
      rw [← this, Nat.pow_add, ← Nat.mul_assoc]
      exact (Nat.mul_div_cancel _ (by decide)).symm
    · have e0 : i.toNat = 0 := by omega
      rw [e0, Nat.shiftLeft_zero]
      generalize hd : (-i).toNat = d at *
      have hfl : m / 2 ^ d = v.natAbs / 1024 := by
        by_cases hk2 : E1 ≤ k
        · have e2 : k = (k - E1) + E1 := by omega
          rw [e2, Nat.pow_add, ← Nat.mul_assoc] at habs
          have := Nat.eq_of_mul_eq_mul_right (pow_pos2 _) habs
          rw [← this]
          have e3 : 1024 = 2 ^ d * 2 ^ (k - E1) := by rw [← Nat.pow_add, show d + (k - E1) = 10 by omega]
          rw [e3]
          exact (Nat.mul_div_mul_right _ _ (pow_pos2 _)).symm
        · have e2 : E1 = (E1 - k) + k := by omega
          rw [e2, Nat.pow_add, ← Nat.mul_assoc] at habs
          have := Nat.eq_of_mul_eq_mul_right (pow_pos2 _) habs
          rw [this]
          have e3 : 2 ^ d = 1024 * 2 ^ (E1 - k) := by rw [show (1024 : Nat) = 2 ^ 10 from rfl, ← Nat.pow_add, show 10 + (E1 - k) = d by omega]
          rw [e3]
          exact Nat.mul_div_mul_right _ _ (pow_pos2 _)
      rw [← hfl]
      unfold Toward.cut
      simp only [Bool.toNat_false, Nat.add_zero, Nat.shiftLeft_eq, Nat.one_mul]
      by_cases hm : d ≤ m.log2 + 2
      · rw [Nat.min_eq_left hm]
      · rw [Nat.min_eq_right (by omega)]
        by_cases hm0 : m = 0
        · subst hm0; simp
        · have h1 : m < 2 ^ (m.log2 + 2) := (Nat.log2_lt hm0).1 (by omega)
          have h2 : m < 2 ^ d := Nat.lt_of_lt_of_le h1 (Nat.pow_le_pow_right (by decide) (by omega))
          rw [Nat.div_eq_of_lt h1, Nat.div_eq_of_lt h2]
  refine ⟨s, ?_, ?_⟩
  · rw [h1]
    show Datum.number s (Toward.cut .zero s (m <<< i.toNat) (-i).toNat) 0 = _
    rw [hcut]
  · have := tdiv_sg s v.natAbs 1024
    rw [← hv] at this
    exact this.symm

theorem toInt_is {w : Nat} {v : Int} (h : IsF w v) : (double.read w).toInt .zero = some (Int.tdiv v 1024) := by
  obtain ⟨s, h1, h2⟩ := int_is h
  unfold Datum.toInt
  rw [h1]
  show some (signed s _ 0) = _
  rw [signed_sg, Nat.pow_zero, Nat.mul_one, h2]

theorem num_is (s : Bool) (a : Nat) (h : a < 2 ^ 43) : IsF (double.write (.number s a 0)) (sg s a * 1024) := by
  refine write_is ⟨s, a, 0, rfl, 2 * E2, by omega, ?_⟩ (by rw [Int.natAbs_mul, sg_abs]; show a * 1024 < 2 ^ 53; omega)
  have e : 2 * E2 = 10 + (E1 + E2) := rfl
  rw [sg_mul, e, Nat.pow_add, Int.natCast_mul, show ((2 ^ 10 : Nat) : Int) = 1024 from rfl, Int.mul_assoc]

/-- a number's word -/
theorem ofInt_is (n : Int) (h : n.natAbs < 2 ^ 43) : IsF (floatOfInt .f64 n) (n * 1024) := by
  have := num_is (decide (n < 0)) n.natAbs h
  have e : sg (decide (n < 0)) n.natAbs = n := by
    unfold sg
    by_cases h2 : n < 0
    · simp only [h2, decide_true, if_true]; omega
    · simp only [h2, decide_false, Bool.false_eq_true, if_false]; omega
  rw [e] at this
  exact this

def ftrunc (w : Nat) : Nat := double.write ((double.read w).integral .zero)
theorem trunc_is {w : Nat} {v : Int} (h : IsF w v) (hb : v.natAbs < 2 ^ 53) : IsF (ftrunc w) (Int.tdiv v 1024 * 1024) := by
  obtain ⟨s, h1, h2⟩ := int_is h
  unfold ftrunc
  rw [h1, ← h2]
  exact num_is s _ (by omega)

theorem neg_is {w : Nat} {v : Int} (h : IsF w v) : IsF (Op.negFloat .f64 w) (-v) := by
  obtain ⟨s, m, i, h1, k, hk, h3⟩ := h
  refine ⟨!s, m, i, ?_, k, hk, by rw [sg_opp, h3, Int.neg_mul]⟩
  have hx : Op.negFloat .f64 w = w ^^^ 2 ^ 63 := rfl
  have hm : (w ^^^ 2 ^ 63) % 2 ^ 63 = w % 2 ^ 63 := by
    rw [Nat.xor_mod_two_pow, Nat.mod_self, Nat.xor_zero]
  have hd : ((w ^^^ 2 ^ 63) / 2 ^ 63 % 2 == 1) = !(w / 2 ^ 63 % 2 == 1) := by
    have a : ∀ x : Nat, (x / 2 ^ 63 % 2 == 1) = x.testBit 63 := by
      intro x
      rw [Nat.testBit_eq_decide_div_mod_eq]
      rfl
    rw [a, a, Nat.testBit_xor, Nat.testBit_two_pow_self, Bool.xor_true]
  rw [hx]
  unfold Format.read at h1 ⊢
  rw [signWeight_eq] at h1 ⊢
  rw [hm, hd]
  revert h1
  simp only
  split
  · intro h1; cases h1; rfl
  · split
    · intro h1; cases h1; rfl
    · split
      · intro h1; cases h1
      · intro h1; cases h1
end Go.Proofs.Ytdbokmhkgkgnfaa
