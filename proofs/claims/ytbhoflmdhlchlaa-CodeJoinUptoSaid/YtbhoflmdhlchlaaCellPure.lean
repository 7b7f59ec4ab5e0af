/- PLAIN: layer 12's arithmetic, of our own. -/
import Derived.Laws.BitsAllLaws
import Derived.RowKit
import Derived.IntWalk
import Derived.Test.YtbhoflmdhlchlaaRows
namespace Go.Proofs.Ytbhoflmdhlchlaa
open Go Go.RowKit
set_option linter.unusedVariables false
set_option linter.unusedSimpArgs false

def inR (x : Int) : Bool := decide (-9223372036854775808 ≤ x ∧ x ≤ 9223372036854775807)
/-- A number, if it is one; else 3. -/
def okR (x : Int) : Int × Int := if inR x = true then (x, 0) else (0, 3)
theorem okR_yes {x : Int} (h : inR x = true) : okR x = (x, 0) := by unfold okR; rw [if_pos h]
theorem okR_no {x : Int} (h : inR x = false) : okR x = (0, 3) := by unfold okR; rw [if_neg (by rw [h]; decide)]
/-- What the step makes of two numbers. -/
def twoR (op : Nat) (a b : Int) : Int × Int :=
  if op = 13 then okR (a + b) else if op = 14 then okR (a - b) else if op = 15 then okR (a * b) else if op = 16 then (if a < b then 1 else 0, 0) else (0, 2)

theorem tb63 (n : Nat) (h : n < 18446744073709551616) : (((n : Int) / 9223372036854775808 == 1) = n.testBit 63) ∧ n.testBit 63 = decide (9223372036854775808 ≤ n) := by
  have h1 : n.testBit 63 = decide (9223372036854775808 ≤ n) := by
    rw [Nat.testBit_eq_decide_div_mod_eq]
    have e : (2 : Nat) ^ 63 = 9223372036854775808 := by decide
    rw [e]
    congr 1
    apply propext
    omega
  refine ⟨?_, h1⟩
  rw [h1, Bool.eq_iff_iff, beq_iff_eq, decide_eq_true_eq]
  omega
theorem u64_cast (a : Int) (ha : -9223372036854775808 ≤ a ∧ a ≤ 9223372036854775807) : ∃ A : Nat, IntKind.u64.wrap a = (A : Int) ∧ A < 18446744073709551616 ∧ ((a < 0 ∧ 9223372036854775808 ≤ A ∧ (A : Int) = a + 18446744073709551616) ∨ (0 ≤ a ∧ A < 9223372036854775808 ∧ (A : Int) = a)) := by
  refine ⟨(a % 18446744073709551616).toNat, ?_, ?_, ?_⟩
  · rw [show IntKind.u64.wrap a = a % 18446744073709551616 by simp [IntKind.wrap, IntKind.bits, IntKind.signed]]; omega
  · omega
  · omega
theorem u64_mod (x : Int) : IntKind.u64.wrap x = x % 18446744073709551616 := by simp [IntKind.wrap, IntKind.bits, IntKind.signed]
theorem top_and_xor (A B C D : Nat) (ha : A < 18446744073709551616) (hb : B < 18446744073709551616) (hc : C < 18446744073709551616) (hd : D < 18446744073709551616) :
    ((bits .and .u64 (bits .xor .u64 (A : Int) (B : Int)) (bits .xor .u64 (C : Int) (D : Int)) / 9223372036854775808 == 1) : Bool) = ((decide (9223372036854775808 ≤ A) ^^ decide (9223372036854775808 ≤ B)) && (decide (9223372036854775808 ≤ C) ^^ decide (9223372036854775808 ≤ D))) := by
  have hx1 : A ^^^ B < 18446744073709551616 := Nat.xor_lt_two_pow (n := 64) (by omega) (by omega)
  have hx2 : C ^^^ D < 18446744073709551616 := Nat.xor_lt_two_pow (n := 64) (by omega) (by omega)
  have hx3 : (A ^^^ B) &&& (C ^^^ D) < 18446744073709551616 := Nat.and_lt_two_pow (n := 64) _ (by omega)
  rw [u64_xor_nat A B ha hb, u64_xor_nat C D hc hd, u64_and_nat _ _ hx1 hx2, (tb63 _ hx3).1, Nat.testBit_and, Nat.testBit_xor, Nat.testBit_xor, (tb63 A ha).2, (tb63 B hb).2, (tb63 C hc).2, (tb63 D hd).2]
theorem add_test (a b : Int) (ha : -9223372036854775808 ≤ a ∧ a ≤ 9223372036854775807) (hb : -9223372036854775808 ≤ b ∧ b ≤ 9223372036854775807) :
    ((bits .and .u64 (bits .xor .u64 (IntKind.u64.wrap a) (IntKind.u64.wrap (IntKind.u64.wrap a + IntKind.u64.wrap b))) (bits .xor .u64 (IntKind.u64.wrap b) (IntKind.u64.wrap (IntKind.u64.wrap a + IntKind.u64.wrap b))) / 9223372036854775808 == 1) : Bool) = !inR (a + b) := by
  obtain ⟨A, e1, l1, c1⟩ := u64_cast a ha
  obtain ⟨B, e2, l2, c2⟩ := u64_cast b hb
  have e3 : IntKind.u64.wrap ((A : Int) + (B : Int)) = (((A + B) % 18446744073709551616 : Nat) : Int) := by rw [u64_mod]; omega
  rw [e1, e2, e3, top_and_xor A _ B _ l1 (Nat.mod_lt _ (by decide)) l2 (Nat.mod_lt _ (by decide))]
  unfold inR
  rw [← decide_not, Bool.eq_iff_iff]
  simp only [Bool.and_eq_true, bne_iff_ne, ne_eq, decide_eq_decide, decide_eq_true_eq]
  omega
theorem sub_test (a b : Int) (ha : -9223372036854775808 ≤ a ∧ a ≤ 9223372036854775807) (hb : -9223372036854775808 ≤ b ∧ b ≤ 9223372036854775807) :
    ((bits .and .u64 (bits .xor .u64 (IntKind.u64.wrap a) (IntKind.u64.wrap b)) (bits .xor .u64 (IntKind.u64.wrap a) (IntKind.u64.wrap (IntKind.u64.wrap a - IntKind.u64.wrap b))) / 9223372036854775808 == 1) : Bool) = !inR (a - b) := by
  obtain ⟨A, e1, l1, c1⟩ := u64_cast a ha
  obtain ⟨B, e2, l2, c2⟩ := u64_cast b hb
  have e3 : IntKind.u64.wrap ((A : Int) - (B : Int)) = (((A + 18446744073709551616 - B) % 18446744073709551616 : Nat) : Int) := by rw [u64_mod]; omega
  rw [e1, e2, e3, top_and_xor A B A _ l1 l2 l1 (Nat.mod_lt _ (by decide))]
  unfold inR
  rw [← decide_not, Bool.eq_iff_iff]
  simp only [Bool.and_eq_true, decide_eq_true_eq]
  have hxor : ∀ p q : Prop, [Decidable p] → [Decidable q] → ((decide p ^^ decide q) = true ↔ ¬ (p ↔ q)) := by
    intro p q _ _
    by_cases hp : p <;> by_cases hq : q <;> simp [hp, hq]
  rw [hxor, hxor]
  omega
theorem i64_mod (x : Int) (h : inR x = true) (k : Int) (hk : k = x % 18446744073709551616) : IntKind.i64.wrap k = x := by
  subst hk
  unfold inR at h
  have h := of_decide_eq_true h
  have : IntKind.i64.wrap (x % 18446744073709551616) = ((x % 18446744073709551616 + 9223372036854775808) % 18446744073709551616) - 9223372036854775808 := by
    simp only [IntKind.wrap, IntKind.bits, IntKind.signed]
    simp
    omega
  rw [this]; omega
theorem add_val (a b : Int) (h : inR (a + b) = true) : IntKind.i64.wrap (IntKind.u64.wrap (IntKind.u64.wrap a + IntKind.u64.wrap b)) = a + b :=
  i64_mod _ h _ (by simp only [u64_mod]; omega)
theorem sub_val (a b : Int) (h : inR (a - b) = true) : IntKind.i64.wrap (IntKind.u64.wrap (IntKind.u64.wrap a - IntKind.u64.wrap b)) = a - b :=
  i64_mod _ h _ (by simp only [u64_mod]; omega)
theorem xor_top (A B : Nat) (ha : A < 18446744073709551616) (hb : B < 18446744073709551616) : bits .xor .u64 (A : Int) (B : Int) / 9223372036854775808 = if (9223372036854775808 ≤ A ↔ 9223372036854775808 ≤ B) then 0 else 1 := by
  have hx1 : A ^^^ B < 18446744073709551616 := Nat.xor_lt_two_pow (n := 64) (by omega) (by omega)
  rw [u64_xor_nat A B ha hb]
  obtain ⟨h1, h2⟩ := tb63 (A ^^^ B) hx1
  rw [Nat.testBit_xor, (tb63 A ha).2, (tb63 B hb).2] at h2
  have hn : A ^^^ B < 9223372036854775808 ↔ (9223372036854775808 ≤ A ↔ 9223372036854775808 ≤ B) := by
    by_cases hA : 9223372036854775808 ≤ A <;> by_cases hB : 9223372036854775808 ≤ B <;> simp [hA, hB] at h2 ⊢ <;> omega
  split
  · rename_i h
    have := hn.2 h
    omega
  · rename_i h
    have : ¬ A ^^^ B < 9223372036854775808 := fun e => h (hn.1 e)
    omega
theorem mul_sign (a b : Int) (ha : -9223372036854775808 ≤ a ∧ a ≤ 9223372036854775807) (hb : -9223372036854775808 ≤ b ∧ b ≤ 9223372036854775807) :
    ∃ sg : Nat, bits .xor .u64 (IntKind.u64.wrap a) (IntKind.u64.wrap b) / 9223372036854775808 = (sg : Int) ∧ ((sg = 0 ∧ a * b = ((a.natAbs * b.natAbs : Nat) : Int)) ∨ (sg = 1 ∧ a * b = -((a.natAbs * b.natAbs : Nat) : Int))) := by
  obtain ⟨A, e1, l1, c1⟩ := u64_cast a ha
  obtain ⟨B, e2, l2, c2⟩ := u64_cast b hb
  rw [e1, e2, xor_top A B l1 l2]
  have hm : ∀ x y : Int, ((x.natAbs * y.natAbs : Nat) : Int) = (x.natAbs : Int) * (y.natAbs : Int) := fun x y => by simp
  rw [hm]
  rcases c1 with ⟨p1, p2, p3⟩ | ⟨p1, p2, p3⟩ <;> rcases c2 with ⟨q1, q2, q3⟩ | ⟨q1, q2, q3⟩
  · refine ⟨0, by rw [if_pos (by omega)]; rfl, .inl ⟨rfl, ?_⟩⟩
    rw [show ((a.natAbs : Nat) : Int) = -a by omega, show ((b.natAbs : Nat) : Int) = -b by omega, Int.neg_mul_neg]
  · refine ⟨1, by rw [if_neg (by omega)]; rfl, .inr ⟨rfl, ?_⟩⟩
    rw [show ((a.natAbs : Nat) : Int) = -a by omega, show ((b.natAbs : Nat) : Int) = b by omega, Int.neg_mul, Int.neg_neg]
  · refine ⟨1, by rw [if_neg (by omega)]; rfl, .inr ⟨rfl, ?_⟩⟩
    rw [show ((a.natAbs : Nat) : Int) = a by omega, show ((b.natAbs : Nat) : Int) = -b by omega, Int.mul_neg, Int.neg_neg]
  · refine ⟨0, by rw [if_pos (by omega)]; rfl, .inl ⟨rfl, ?_⟩⟩
    rw [show ((a.natAbs : Nat) : Int) = a by omega, show ((b.natAbs : Nat) : Int) = b by omega]
theorem i64_wrap_in (x : Int) (h : -9223372036854775808 ≤ x ∧ x ≤ 9223372036854775807) : IntKind.i64.wrap x = x := IntWalk.i64_in _ h
/-- A product that is no number: what the quotient tells. -/
theorem mul_bad (a b m : Int) (hm : a * b = m) (ha : -9223372036854775808 ≤ a ∧ a ≤ 9223372036854775807) (hb : -9223372036854775808 ≤ b ∧ b ≤ 9223372036854775807) (h0 : ¬ a = 0) (h1 : ¬ a = -1) (hin : inR m = false) :
    (wrap64 ((wrap64 m).tdiv a) == b) = false := by
  have hnot : ¬ (-9223372036854775808 ≤ m ∧ m ≤ 9223372036854775807) := by unfold inR at hin; exact of_decide_eq_false hin
  rw [beq_eq_false_iff_ne]
  intro he
  have hc : -9223372036854775808 ≤ wrap64 m ∧ wrap64 m ≤ 9223372036854775807 := by unfold wrap64; omega
  obtain ⟨k, hk⟩ : ∃ k : Int, wrap64 m = m + 18446744073709551616 * k := ⟨-((m + 9223372036854775808) / 18446744073709551616), by unfold wrap64; omega⟩
  generalize wrap64 m = c at *
  have q1 := Int.natAbs_tdiv c a
  have q2 := Int.natAbs_tmod c a
  have q3 := Int.mul_tdiv_add_tmod c a
  have hr : c.natAbs % a.natAbs < a.natAbs := Nat.mod_lt _ (by omega)
  have hq : -9223372036854775808 ≤ c.tdiv a ∧ c.tdiv a ≤ 9223372036854775807 := by
    by_cases ha1 : a = 1
    · subst ha1
      rw [Int.tdiv_one]; exact hc
    · have : c.natAbs.div a.natAbs ≤ c.natAbs / 2 := by
        show c.natAbs / a.natAbs ≤ c.natAbs / 2
        exact Nat.div_le_div_left (by omega) (by omega)
      omega
  rw [IntWalk.wrap64_in _ hq] at he
  rw [he, hm] at q3
  generalize c.tmod a = t at *
  omega
end Go.Proofs.Ytbhoflmdhlchlaa
