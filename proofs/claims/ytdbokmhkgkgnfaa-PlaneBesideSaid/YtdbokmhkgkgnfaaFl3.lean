/- PLAIN: a quotient by 256; places as pairs of words; what the model's operations on them give. -/
import Derived.Test.YtdbokmhkgkgnfaaFl2
namespace Go.Proofs.Ytdbokmhkgkgnfaa
open Go Ieee
set_option linter.unusedVariables false
set_option linter.unusedSimpArgs false

theorem read_lt {w : Nat} {s : Bool} {m : Nat} {i : Int} (h : double.read w = .number s m i) : m < 2 ^ 53 := by
  unfold Format.read at h
  rw [signWeight_eq, binade_eq] at h
  revert h
  simp only
  split
  · intro h; cases h; omega
  · split
    · intro h; cases h; omega
    · split
      · intro h; cases h
      · intro h; cases h
def fdiv (x y : Nat) : Nat := (double.div x y).getD 0
theorem read_256 : double.read 4643211215818981376 = .number false (2 ^ 52) (-44) := by decide
theorem div256_is {x : Nat} {v z : Int} (hx : IsF x v) (hz : v = 256 * z) (h0 : z ≠ 0) (hb : z.natAbs < 2 ^ 53) : double.div x 4643211215818981376 = some (fdiv x 4643211215818981376) ∧ IsF (fdiv x 4643211215818981376) z := by
  obtain ⟨s, m, i, h1, k, hk, h3⟩ := hx
  have hm53 := read_lt h1
  have hm : m ≠ 0 := by
    intro h; subst h
    rw [Nat.zero_mul] at h3
    have e : sg s 0 = 0 := by cases s <;> simp [sg]
    rw [e] at h3
    have hp := pow_pos2 E1
    rcases Int.mul_eq_zero.1 h3.symm with h | h <;> omega
  have hl : m.log2 < 53 := (Nat.log2_lt hm).2 hm53
  have hn : (2 ^ 52 : Nat).log2 = 52 := by decide
  have hq : (Datum.number s m i).quotient (double.fractionBits + 2) (.number false (2 ^ 52) (-44)) = some (.number s (m * 2 ^ (55 - m.log2)) (i - -44 - (106 - m.log2 : Nat) - 1)) := by
    have hf : double.fractionBits = 52 := rfl
    unfold Datum.quotient
    have e1 : ¬ ((2 : Nat) ^ 52 = 0) := by decide
    simp only [e1, if_false, hf, hn]
    have e2 : m <<< (52 + 2 + 52 - m.log2) = m * 2 ^ (54 - m.log2) * 2 ^ 52 := by
      rw [Nat.shiftLeft_eq, Nat.mul_assoc, ← Nat.pow_add]
      congr 2; omega
    have e3 : 2 * (m * 2 ^ (54 - m.log2)) = m * 2 ^ (55 - m.log2) := by
      rw [show 55 - m.log2 = (54 - m.log2) + 1 by omega, Nat.pow_succ]; ac_rfl
    rw [e2, Nat.mul_div_cancel _ (by decide), Nat.mul_mod_left, e3]
    simp
  have e : double.div x 4643211215818981376 = some (double.write (.number s (m * 2 ^ (55 - m.log2)) (i - -44 - (106 - m.log2 : Nat) - 1))) := by
    unfold Format.div; rw [h1, read_256, hq]; rfl
  have e2 : fdiv x 4643211215818981376 = double.write (.number s (m * 2 ^ (55 - m.log2)) (i - -44 - (106 - m.log2 : Nat) - 1)) := by unfold fdiv; rw [e]; rfl
  rw [e2]
  have hE : E2 = 1074 := rfl
  refine ⟨e, write_is ⟨_, _, _, rfl, k + E2 + 43 - (106 - m.log2), by omega, ?_⟩ hb⟩
  have e3 : m * 2 ^ (55 - m.log2) * 2 ^ (k + E2 + 43 - (106 - m.log2)) = m * 2 ^ k * 2 ^ (E2 - 8) := by
    rw [Nat.mul_assoc, ← Nat.pow_add, Nat.mul_assoc, ← Nat.pow_add]
    congr 2; omega
  rw [e3, sg_mul, h3, hz]
  have e4 : E1 + E2 = E1 + (E2 - 8) + 8 := by omega
  rw [e4, Nat.pow_add, Nat.pow_add, Int.natCast_mul, Int.natCast_mul, show ((2 ^ 8 : Nat) : Int) = 256 from rfl]
  generalize ((2 ^ E1 : Nat) : Int) = Q
  generalize ((2 ^ (E2 - 8) : Nat) : Int) = R
  ac_rfl

/-- a place of whole parts -/
def CF (p q : Nat) (a b : Int) : Prop := IsF p (a * 1024) ∧ IsF q (b * 1024)
theorem CF.add {p q r s : Nat} {a b c d : Int} (h : CF p q a b) (g : CF r s c d) (h1 : (a + c).natAbs < 2 ^ 43) (h2 : (b + d).natAbs < 2 ^ 43) : cSumBits .add .f64 p q r s = some (fadd p r, fadd q s) ∧ CF (fadd p r) (fadd q s) (a + c) (b + d) := by
  obtain ⟨e1, e2⟩ := add_is h.1 g.1 (by omega)
  obtain ⟨e3, e4⟩ := add_is h.2 g.2 (by omega)
  refine ⟨?_, by rw [Int.add_mul]; exact e2, by rw [Int.add_mul]; exact e4⟩
  show ((double.add p r).bind fun re => (double.add q s).bind fun im => some (re, im)) = _
  rw [e1, e3]; rfl
theorem CF.sub {p q r s : Nat} {a b c d : Int} (h : CF p q a b) (g : CF r s c d) (h1 : (a - c).natAbs < 2 ^ 43) (h2 : (b - d).natAbs < 2 ^ 43) : cSumBits .sub .f64 p q r s = some (fsub p r, fsub q s) ∧ CF (fsub p r) (fsub q s) (a - c) (b - d) := by
  obtain ⟨e1, e2⟩ := sub_is h.1 g.1 (by omega)
  obtain ⟨e3, e4⟩ := sub_is h.2 g.2 (by omega)
  refine ⟨?_, by rw [Int.sub_mul]; exact e2, by rw [Int.sub_mul]; exact e4⟩
  show ((double.sub p r).bind fun re => (double.sub q s).bind fun im => some (re, im)) = _
  rw [e1, e3]; rfl
/-- the parts of a product -/
def cmR (p q r s : Nat) : Nat := fsub (fmul p r) (fmul q s)
def cmI (p q r s : Nat) : Nat := fadd (fmul p s) (fmul q r)
theorem mul_bits {p q r s : Nat} {a b c d ac bd ad bc : Int} (hp : IsF p a) (hq : IsF q b) (hr : IsF r c) (hs : IsF s d) (h1 : a * c = ac * 1024) (h2 : b * d = bd * 1024) (h3 : a * d = ad * 1024) (h4 : b * c = bc * 1024)
    (b1 : ac.natAbs < 2 ^ 52) (b2 : bd.natAbs < 2 ^ 52) (b3 : ad.natAbs < 2 ^ 52) (b4 : bc.natAbs < 2 ^ 52) : cMulBits p q r s = some (cmR p q r s, cmI p q r s) ∧ IsF (cmR p q r s) (ac - bd) ∧ IsF (cmI p q r s) (ad + bc) := by
  obtain ⟨e1, f1⟩ := mul_is hp hr h1 (by omega)
  obtain ⟨e2, f2⟩ := mul_is hq hs h2 (by omega)
  obtain ⟨e3, f3⟩ := mul_is hp hs h3 (by omega)
  obtain ⟨e4, f4⟩ := mul_is hq hr h4 (by omega)
  obtain ⟨e5, f5⟩ := sub_is f1 f2 (by omega)
  obtain ⟨e6, f6⟩ := add_is f3 f4 (by omega)
  refine ⟨?_, f5, f6⟩
  show ((double.mul p r).bind fun ac => (double.mul q s).bind fun bd => (double.sub ac bd).bind fun re =>
    (double.mul p s).bind fun ad => (double.mul q r).bind fun bc => (double.add ad bc).bind fun im => some (re, im)) = _
  rw [e1, e2, e3, e4]
  show ((double.sub (fmul p r) (fmul q s)).bind fun re => (double.add (fmul p s) (fmul q r)).bind fun im => some (re, im)) = _
  rw [e5, e6]; rfl
/-- times -1 + i -/
theorem CF.beta {p q r s : Nat} {a b : Int} (h : CF p q a b) (g : CF r s (-1) 1) (h1 : a.natAbs < 2 ^ 41) (h2 : b.natAbs < 2 ^ 41) : cMulBits p q r s = some (cmR p q r s, cmI p q r s) ∧ CF (cmR p q r s) (cmI p q r s) (-a - b) (a - b) := by
  obtain ⟨e, f, g2⟩ := mul_bits (ac := -a * 1024) (bd := b * 1024) (ad := a * 1024) (bc := -b * 1024) h.1 h.2 g.1 g.2 (by omega) (by omega) (by omega) (by omega) (by omega) (by omega) (by omega) (by omega)
  refine ⟨e, ?_, ?_⟩
  · rw [show (-a - b) * 1024 = -a * 1024 - b * 1024 by omega]; exact f
  · rw [show (a - b) * 1024 = a * 1024 + -b * 1024 by omega]; exact g2
/-- through -1 + i: times -(1 + i) / 2 -/
theorem CF.half {p q r s : Nat} {a b : Int} (h : CF p q a b) (g1 : IsF r (-512)) (g2 : IsF s (-512)) (hab : (a + b) % 2 = 0) (h1 : a.natAbs < 2 ^ 41) (h2 : b.natAbs < 2 ^ 41) : cMulBits p q r s = some (cmR p q r s, cmI p q r s) ∧ CF (cmR p q r s) (cmI p q r s) ((b - a) / 2) ((-a - b) / 2) := by
  obtain ⟨e, f, g2⟩ := mul_bits (ac := -a * 512) (bd := -b * 512) (ad := -a * 512) (bc := -b * 512) h.1 h.2 g1 g2 (by omega) (by omega) (by omega) (by omega) (by omega) (by omega) (by omega) (by omega)
  refine ⟨e, ?_, ?_⟩
  · rw [show (b - a) / 2 * 1024 = -a * 512 - -b * 512 by omega]; exact f
  · rw [show (-a - b) / 2 * 1024 = -a * 512 + -b * 512 by omega]; exact g2

section
variable {P : Program}
theorem run_cadd {p q r s : Nat} {a b c d : Int} (h : CF p q a b) (g : CF r s c d) (h1 : (a + c).natAbs < 2 ^ 43) (h2 : (b + d).natAbs < 2 ^ 43) (t : TypeId) (w : World) :
    (binOp .add t (.complex .f64 p q) (.complex .f64 r s)).run P w = .ok (.complex .f64 (fadd p r) (fadd q s)) w := run_complex_sum w .add (.inl rfl) t .f64 _ _ _ _ _ _ (h.add g h1 h2).1
theorem run_csub {p q r s : Nat} {a b c d : Int} (h : CF p q a b) (g : CF r s c d) (h1 : (a - c).natAbs < 2 ^ 43) (h2 : (b - d).natAbs < 2 ^ 43) (t : TypeId) (w : World) :
    (binOp .sub t (.complex .f64 p q) (.complex .f64 r s)).run P w = .ok (.complex .f64 (fsub p r) (fsub q s)) w := run_complex_sum w .sub (.inr rfl) t .f64 _ _ _ _ _ _ (h.sub g h1 h2).1
theorem run_cbeta {p q r s : Nat} {a b : Int} (h : CF p q a b) (g : CF r s (-1) 1) (h1 : a.natAbs < 2 ^ 41) (h2 : b.natAbs < 2 ^ 41) (t : TypeId) (w : World) :
    (binOp .mul t (.complex .f64 p q) (.complex .f64 r s)).run P w = .ok (.complex .f64 (cmR p q r s) (cmI p q r s)) w := run_complex_mul w t _ _ _ _ _ _ (h.beta g h1 h2).1
theorem run_chalf {p q r s : Nat} {a b : Int} (h : CF p q a b) (g1 : IsF r (-512)) (g2 : IsF s (-512)) (hab : (a + b) % 2 = 0) (h1 : a.natAbs < 2 ^ 41) (h2 : b.natAbs < 2 ^ 41) (t : TypeId) (w : World) :
    (binOp .mul t (.complex .f64 p q) (.complex .f64 r s)).run P w = .ok (.complex .f64 (cmR p q r s) (cmI p q r s)) w := run_complex_mul w t _ _ _ _ _ _ (h.half g1 g2 hab h1 h2).1
theorem run_fadd {p q : Nat} {a b : Int} (h : IsF p a) (g : IsF q b) (h1 : (a + b).natAbs < 2 ^ 53) (t : TypeId) (w : World) :
    (binOp .add t (.float .f64 p) (.float .f64 q)).run P w = .ok (.float .f64 (fadd p q)) w := run_float_arith w .add t .f64 _ _ _ (add_is h g h1).1
theorem run_fsub {p q : Nat} {a b : Int} (h : IsF p a) (g : IsF q b) (h1 : (a - b).natAbs < 2 ^ 53) (t : TypeId) (w : World) :
    (binOp .sub t (.float .f64 p) (.float .f64 q)).run P w = .ok (.float .f64 (fsub p q)) w := run_float_arith w .sub t .f64 _ _ _ (sub_is h g h1).1
theorem run_fdiv {p : Nat} {a z : Int} (h : IsF p a) (hz : a = 256 * z) (h0 : z ≠ 0) (hb : z.natAbs < 2 ^ 53) (t : TypeId) (w : World) :
    (binOp .quo t (.float .f64 p) (.float .f64 4643211215818981376)).run P w = .ok (.float .f64 (fdiv p 4643211215818981376)) w := run_float_arith w .quo t .f64 _ _ _ (div256_is h hz h0 hb).1
theorem run_fint {p : Nat} {a : Int} (h : IsF p (a * 1024)) (hb : a.natAbs < 2 ^ 43) (src dst : TypeId) (w : World) (hs : (P.underlying src).isSome = true) (hd : P.underlying dst = some (.int .i64)) :
    (convert src dst (.float .f64 p)).run P w = .ok (.int .i64 a) w := by
  refine run_convert_float_int w src dst .f64 .i64 p a hs hd ?_
  have e := toInt_is h
  rw [Int.mul_tdiv_cancel _ (by decide)] at e
  unfold floatToIntVal
  have e2 : (FloatKind.decode .f64 p).toInt .zero = some a := e
  rw [e2]
  have e3 : IntKind.min .i64 ≤ a ∧ a ≤ IntKind.max .i64 := by
    have : IntKind.min .i64 = -9223372036854775808 := by decide
    have : IntKind.max .i64 = 9223372036854775807 := by decide
    omega
  simp only [e3, and_self, if_true]
end
theorem isF_0 : IsF 0 0 := ⟨false, 0, -1074, by decide, 0, by simp [E2], by simp [sg]⟩
theorem order_f {x y : Nat} {v u : Int} (hx : IsF x v) (hy : IsF y u) : FloatKind.f64.format.order x y = some (compare v u) := order_is hx hy
theorem cmp_lt {v u : Int} (h : v < u) : compare v u = .lt := by rw [cmp_int, if_pos h]
theorem cmp_gt {v u : Int} (h : u < v) : compare v u = .gt := by rw [cmp_int, if_neg (by omega), if_neg (by omega)]
theorem cmp_eq {v u : Int} (h : v = u) : compare v u = .eq := by rw [cmp_int, if_neg (by omega), if_pos h]
theorem cmp_beq {v u : Int} : (some (compare v u) == some Ordering.eq) = decide (v = u) := by
  by_cases h : v = u
  · rw [cmp_eq h, decide_eq_true h]; rfl
  · rw [decide_eq_false h]
    by_cases h2 : v < u
    · rw [cmp_lt h2]; rfl
    · rw [cmp_gt (by omega)]; rfl
/-- two places of whole parts are the same -/
theorem cf_eq {p q r s : Nat} {a b c d : Int} (h : CF p q a b) (g : CF r s c d) : ((FloatKind.f64.format.order p r == some .eq) && (FloatKind.f64.format.order q s == some .eq)) = decide (a = c ∧ b = d) := by
  rw [order_f h.1 g.1, order_f h.2 g.2, cmp_beq, cmp_beq]
  by_cases h1 : a = c <;> by_cases h2 : b = d <;> simp [h1, h2] <;> omega
end Go.Proofs.Ytdbokmhkgkgnfaa
