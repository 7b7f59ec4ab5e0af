/- LAYER 5: the program's Of. -/
import Derived.Test.YtdbokmhkgkgnfaaPl1
namespace Go.Proofs.Ytdbokmhkgkgnfaa
open Go Go.RowKit
set_option linter.unusedVariables false
set_option linter.unusedSimpArgs false

theorem plS_zero (k : Nat) : ∀ a b : Int, plS k 0 a b = (0, 0) := by
  induction k with
  | zero => intro a b; rfl
  | succ k ih => intro a b; simp only [plS]; exact ih _ _
theorem u64_and1 (m : Nat) (h : m < 18446744073709551616) : bits .and .u64 (m : Int) 1 = ((m % 2 : Nat) : Int) := by
  show IntKind.u64.wrap ((BitVec.ofInt 64 (m : Int) &&& BitVec.ofInt 64 1).toNat : Int) = _
  rw [BitVec.toNat_and, show (BitVec.ofInt 64 (1 : Int)).toNat = 2 ^ 1 - 1 by decide, Nat.and_two_pow_sub_one_eq_mod, BitVec.toNat_ofInt]
  rw [IntKind.wrap_u64]
  omega
theorem cf_0 : CF 0 0 0 0 := ⟨isF_0, isF_0⟩
theorem cf_10 : CF 4607182418800017408 0 1 0 := ⟨isF_1, isF_0⟩
theorem cf_beta : CF 13830554455654793216 4607182418800017408 (-1) 1 := ⟨isF_m1, isF_1⟩
def LA (A : Int) (z : Int × Int) (T : Int) : Prop := A + z.1 = T
/-- the state of Of's loop -/
def OfJ (m p q r s : Nat) (TA TI : Int) : Prop := ∃ (k w : Nat) (A B C D : Int), m < 2 ^ k ∧ w * 2 ^ k ≤ 2 ^ 40 ∧ 1 ≤ w ∧ (A.natAbs ≤ w ∧ B.natAbs ≤ w ∧ C.natAbs ≤ w ∧ D.natAbs ≤ w) ∧ CF p q A B ∧ CF r s C D ∧ A + (plS k m C D).1 = TA ∧ B + (plS k m C D).2 = TI
theorem ofJ_end {p q r s : Nat} {TA TI : Int} (h : OfJ 0 p q r s TA TI) : CF p q TA TI := by
  obtain ⟨k, w, A, B, C, D, -, -, -, -, h1, -, h2, h3⟩ := h
  rw [plS_zero] at h2 h3
  simp only [Int.add_zero] at h2 h3
  rw [← h2, ← h3]
  exact h1
theorem ofJ_step {m p q r s : Nat} {TA TI : Int} (h : OfJ m p q r s TA TI) (hm : 0 < m) :
    (∀ (t : TypeId) (w : World), (binOp .add t (.complex .f64 p q) (.complex .f64 r s)).run Try.prog w = .ok (.complex .f64 (fadd p r) (fadd q s)) w) ∧
    (∀ (t : TypeId) (w : World), (binOp .mul t (.complex .f64 r s) (.complex .f64 13830554455654793216 4607182418800017408)).run Try.prog w = .ok (.complex .f64 (cmR r s 13830554455654793216 4607182418800017408) (cmI r s 13830554455654793216 4607182418800017408)) w) ∧
    (m % 2 = 1 → OfJ (m / 2) (fadd p r) (fadd q s) (cmR r s 13830554455654793216 4607182418800017408) (cmI r s 13830554455654793216 4607182418800017408) TA TI) ∧
    (m % 2 = 0 → OfJ (m / 2) p q (cmR r s 13830554455654793216 4607182418800017408) (cmI r s 13830554455654793216 4607182418800017408) TA TI) := by
  obtain ⟨k, w, A, B, C, D, hk, hw, hw1, hb, h1, h2, h3, h4⟩ := h
  obtain ⟨k, rfl⟩ : ∃ k', k = k' + 1 := by
    cases k with
    | zero => simp at hk; omega
    | succ k => exact ⟨k, rfl⟩
  have hp := pow_pos2 k
  have hww : w * 2 ≤ 2 ^ 40 := Nat.le_trans (Nat.mul_le_mul_left w (by rw [Nat.pow_succ]; omega)) hw
  have hw2 : (2 * w) * 2 ^ k ≤ 2 ^ 40 := by rw [Nat.pow_succ] at hw; rw [show 2 * w * 2 ^ k = w * (2 ^ k * 2) by ac_rfl]; exact hw
  have hm2 : m / 2 < 2 ^ k := by rw [Nat.pow_succ] at hk; omega
  have g1 := h1.add h2 (by omega) (by omega)
  have g2 := h2.beta cf_beta (by omega) (by omega)
  refine ⟨fun t w => run_cadd h1 h2 (by omega) (by omega) t w, fun t w => run_cbeta h2 cf_beta (by omega) (by omega) t w, fun ho => ?_, fun ho => ?_⟩
  · refine ⟨k, 2 * w, A + C, B + D, -C - D, C - D, hm2, hw2, by omega, ⟨by omega, by omega, by omega, by omega⟩, g1.2, g2.2, ?_, ?_⟩
    · simp only [plS, ho, if_true] at h3; omega
    · simp only [plS, ho, if_true] at h4; omega
  · refine ⟨k, 2 * w, A, B, -C - D, C - D, hm2, hw2, by omega, ⟨by omega, by omega, by omega, by omega⟩, h1, g2.2, ?_, ?_⟩
    · simp only [plS, ho] at h3; simpa using h3
    · simp only [plS, ho] at h4; simpa using h4
theorem ofJ_begin (n : Nat) (h : n < 2 ^ 40) : OfJ n 0 0 4607182418800017408 0 (plA n) (plI n) :=
  ⟨40, 1, 0, 0, 1, 0, h, by decide, by decide, by decide, cf_0, cf_10, by simp [plA], by simp [plI]⟩

set_option maxRecDepth 100000 in
set_option maxHeartbeats 2000000 in
theorem of_ok (n : Nat) (h : n < 2 ^ 40) (w : World) : Calls Try.prog 14 #[.int .u64 (n : Int)] w fun e w' => (∃ p q, e = .returned (.tuple #[.complex .f64 p q, .int .i64 0]) ∧ CF p q (plA n) (plI n)) ∧ w' = w := by
  have h1 : (n : Int) < 1099511627776 := by omega
  have h0 : (n : Int) / 1099511627776 = 0 := by omega
  have HJ := Lib.hid (ofJ_begin n h)
  clear h
  go_enter Try.func14, Try.ntmps14
  go_wp2_with fail
  go_loop [0, 4, 5] (fun nv zv xv => ∃ m p q r s : Nat, nv = .int .u64 (m : Int) ∧ zv = .complex .f64 p q ∧ xv = .complex .f64 r s ∧ Hid (m ≤ n) ∧ Hid (OfJ m p q r s (plA n) (plI n))) (fun nv _ _ => (intOf nv).toNat)
  case atStart => exact ⟨n, 0, 0, 4607182418800017408, 0, rfl, rfl, rfl, Lib.hid (Nat.le_refl _), HJ⟩
  case round =>
    clear HJ h0
    obtain ⟨m, p, q, r, s, rfl, rfl, rfl, hm, HJ⟩ := hrel
    have hm1 : (m : Int) < 1099511627776 := by have := hm.out; omega
    by_cases hz : m = 0
    · subst hz
      have HE := Lib.hid (ofJ_end HJ.out)
      clear HJ hm
      go_wp2_with fail
      go_ret2
      exact ⟨⟨_, _, rfl, HE.out⟩, rfl⟩
    · have hpos : (0 : Int) < (m : Int) := by omega
      obtain ⟨s1, s2, s3, s4⟩ := ofJ_step HJ.out (by omega)
      have ka := u64_and1 m (by omega)
      have hm2 : Hid (m / 2 ≤ n) := Lib.hid (by have := hm.out; omega)
      have hms : Hid (m / 2 < m) := Lib.hid (by omega)
      generalize fadd p r = p1 at *
      generalize fadd q s = q1 at *
      generalize cmR r s 13830554455654793216 4607182418800017408 = r1 at *
      generalize cmI r s 13830554455654793216 4607182418800017408 = t1 at *
      replace s3 := Lib.hid s3
      replace s4 := Lib.hid s4
      clear HJ hm hm1 hz h1
      by_cases ho : m % 2 = 1
      · rw [ho] at ka
        have HO := Lib.hid (s3.out ho)
        clear s3 s4 ho
        go_wp2_with fail
        go_round
        case rel => exact ⟨m / 2, p1, q1, r1, t1, by go_num, rfl, rfl, hm2, HO⟩
        case measure => have := hms.out; simp [intOf]; omega
      · have ho2 : m % 2 = 0 := by omega
        rw [ho2] at ka
        have HO := Lib.hid (s4.out ho2)
        clear s3 s4 ho ho2
        go_wp2_with fail
        go_round
        case rel => exact ⟨m / 2, p, q, r1, t1, by go_num, rfl, rfl, hm2, HO⟩
        case measure => have := hms.out; simp [intOf]; omega
theorem of_far (n : Nat) (h : ¬ n < 2 ^ 40) (hn : n < 18446744073709551616) (w : World) : Calls Try.prog 14 #[.int .u64 (n : Int)] w fun e w' => e = .returned (.tuple #[.complex .f64 0 0, .int .i64 3]) ∧ w' = w := by
  have h1 : (n : Int) ≤ 18446744073709551615 := by omega
  have h0 : ¬ (n : Int) / 1099511627776 = 0 := by omega
  clear h hn
  go_enter Try.func14, Try.ntmps14
  go_wp2_with fail
  go_ret2
  exact ⟨rfl, rfl⟩
end Go.Proofs.Ytdbokmhkgkgnfaa
