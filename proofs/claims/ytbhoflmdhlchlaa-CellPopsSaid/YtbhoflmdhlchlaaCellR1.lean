/- THE DOCUMENT'S LAYER 12: Two. -/
import Derived.Test.YtbhoflmdhlchlaaCell1
namespace Go.Proofs.Ytbhoflmdhlchlaa
open Go Go.RowKit
set_option linter.unusedVariables false
set_option linter.unusedSimpArgs false

set_option maxHeartbeats 1000000 in
theorem rtwo_add (a b : Int) (w : World) (ha : -9223372036854775808 ≤ a ∧ a ≤ 9223372036854775807) (hb : -9223372036854775808 ≤ b ∧ b ≤ 9223372036854775807) :
    Calls Try.prog 42 #[.int .u8 13, .int .i64 a, .int .i64 b] w fun e w' => e = .returned (.tuple #[.int .i64 (okR (a + b)).1, .int .i64 (okR (a + b)).2]) ∧ w = w' := by
  obtain ⟨a1, a2⟩ := ha
  obtain ⟨b1, b2⟩ := hb
  cases hin : inR (a + b)
  · rw [okR_no hin]
    have h : ¬ (-9223372036854775808 ≤ a + b ∧ a + b ≤ 9223372036854775807) := by unfold inR at hin; exact of_decide_eq_false hin
    rcases Int.lt_trichotomy b 0 with hb | hb | hb
    · have h1 : a < -9223372036854775808 - b := by omega
      have h2 : ¬ 0 < b := by omega
      have d1 : decide (0 < b) = false := by simp; omega
      clear h hin h2
      go_enter Try.func42, Try.ntmps42
      go_wp2_with fail
      go_ret2
      exact ⟨rfl, rfl⟩
    · omega
    · have h1 : 9223372036854775807 - b < a := by omega
      clear h hin
      go_enter Try.func42, Try.ntmps42
      go_wp2_with fail
      go_ret2
      exact ⟨rfl, rfl⟩
  · rw [okR_yes hin]
    have h : -9223372036854775808 ≤ a + b ∧ a + b ≤ 9223372036854775807 := by unfold inR at hin; exact of_decide_eq_true hin
    obtain ⟨h1, h2⟩ := h
    rcases Int.lt_trichotomy b 0 with hb | hb | hb
    · have d1 : decide (0 < b) = false := by simp; omega
      have d2 : decide (a < -9223372036854775808 - b) = false := by simp; omega
      clear hin
      go_enter Try.func42, Try.ntmps42
      go_wp2_with fail
      go_ret2
      exact ⟨rfl, rfl⟩
    · subst hb
      clear hin
      go_enter Try.func42, Try.ntmps42
      go_wp2_with fail
      go_ret2
      exact ⟨by simp, rfl⟩
    · have d1 : decide (b < 0) = false := by simp; omega
      have d2 : decide (9223372036854775807 - b < a) = false := by simp; omega
      clear hin
      go_enter Try.func42, Try.ntmps42
      go_wp2_with fail
      go_ret2
      exact ⟨rfl, rfl⟩
set_option maxHeartbeats 1000000 in
theorem rtwo_sub (a b : Int) (w : World) (ha : -9223372036854775808 ≤ a ∧ a ≤ 9223372036854775807) (hb : -9223372036854775808 ≤ b ∧ b ≤ 9223372036854775807) :
    Calls Try.prog 42 #[.int .u8 14, .int .i64 a, .int .i64 b] w fun e w' => e = .returned (.tuple #[.int .i64 (okR (a - b)).1, .int .i64 (okR (a - b)).2]) ∧ w = w' := by
  obtain ⟨a1, a2⟩ := ha
  obtain ⟨b1, b2⟩ := hb
  cases hin : inR (a - b)
  · rw [okR_no hin]
    have h : ¬ (-9223372036854775808 ≤ a - b ∧ a - b ≤ 9223372036854775807) := by unfold inR at hin; exact of_decide_eq_false hin
    rcases Int.lt_trichotomy b 0 with hb | hb | hb
    · have h1 : 9223372036854775807 + b < a := by omega
      clear h hin
      go_enter Try.func42, Try.ntmps42
      go_wp2_with fail
      go_ret2
      exact ⟨rfl, rfl⟩
    · omega
    · have h1 : a < -9223372036854775808 + b := by omega
      have d1 : decide (b < 0) = false := by simp; omega
      clear h hin
      go_enter Try.func42, Try.ntmps42
      go_wp2_with fail
      go_ret2
      exact ⟨rfl, rfl⟩
  · rw [okR_yes hin]
    have h : -9223372036854775808 ≤ a - b ∧ a - b ≤ 9223372036854775807 := by unfold inR at hin; exact of_decide_eq_true hin
    obtain ⟨h1, h2⟩ := h
    rcases Int.lt_trichotomy b 0 with hb | hb | hb
    · have d1 : decide (0 < b) = false := by simp; omega
      have d2 : decide (9223372036854775807 + b < a) = false := by simp; omega
      clear hin
      go_enter Try.func42, Try.ntmps42
      go_wp2_with fail
      go_ret2
      exact ⟨rfl, rfl⟩
    · subst hb
      clear hin
      go_enter Try.func42, Try.ntmps42
      go_wp2_with fail
      go_ret2
      exact ⟨by simp, rfl⟩
    · have d1 : decide (b < 0) = false := by simp; omega
      have d2 : decide (a < -9223372036854775808 + b) = false := by simp; omega
      clear hin
      go_enter Try.func42, Try.ntmps42
      go_wp2_with fail
      go_ret2
      exact ⟨rfl, rfl⟩
set_option maxHeartbeats 1000000 in
theorem rtwo_mul (a b : Int) (w : World) (ha : -9223372036854775808 ≤ a ∧ a ≤ 9223372036854775807) (hb : -9223372036854775808 ≤ b ∧ b ≤ 9223372036854775807) :
    Calls Try.prog 42 #[.int .u8 15, .int .i64 a, .int .i64 b] w fun e w' => e = .returned (.tuple #[.int .i64 (okR (a * b)).1, .int .i64 (okR (a * b)).2]) ∧ w = w' := by
  obtain ⟨a1, a2⟩ := ha
  obtain ⟨b1, b2⟩ := hb
  by_cases h0 : a = 0
  · subst h0
    have e0 : IntKind.i64.wrap (0 * b) = 0 := by rw [Int.zero_mul]; rfl
    rw [Int.zero_mul, show okR 0 = (0, 0) from rfl]
    go_enter Try.func42, Try.ntmps42
    go_wp2_with fail
    go_ret2
    exact ⟨rfl, rfl⟩
  · have d0 : (a == 0) = false := by simp [h0]
    generalize hm : a * b = m at *
    cases hin : inR m
    · rw [okR_no hin]
      by_cases h1 : a = -1
      · subst h1
        have h2 : ¬ (-9223372036854775808 ≤ m ∧ m ≤ 9223372036854775807) := by unfold inR at hin; exact of_decide_eq_false hin
        obtain rfl : b = -9223372036854775808 := by omega
        obtain rfl : m = 9223372036854775808 := by omega
        have e1 : wrap64 (9223372036854775808 : Int) = -9223372036854775808 := by unfold wrap64; rfl
        have e2 : (-9223372036854775808 : Int).tdiv (-1) = 9223372036854775808 := by decide
        clear hm hin h2
        go_enter Try.func42, Try.ntmps42
        go_wp2_with fail
        go_ret2
        exact ⟨rfl, rfl⟩
      · have d1 := mul_bad a b m hm ⟨a1, a2⟩ ⟨b1, b2⟩ h0 h1 hin
        replace hm := Lib.hid hm
        have hm2 : a * b = m := hm.out
        clear hin
        go_enter Try.func42, Try.ntmps42
        go_wp2_with fail
        go_ret2
        exact ⟨rfl, rfl⟩
    · rw [okR_yes hin]
      have hyes : -9223372036854775808 ≤ m ∧ m ≤ 9223372036854775807 := by unfold inR at hin; exact of_decide_eq_true hin
      have e1 : wrap64 m = m := IntWalk.wrap64_in _ hyes
      have e2 : m.tdiv a = b := by rw [← hm]; exact Int.mul_tdiv_cancel_left b h0
      have e3 : wrap64 b = b := IntWalk.wrap64_in _ ⟨b1, b2⟩
      by_cases h1 : a = -1
      · have d1 : (b == -9223372036854775808) = false := by rw [beq_eq_false_iff_ne]; intro e; subst h1; omega
        subst h1
        clear hin hyes
        go_enter Try.func42, Try.ntmps42
        go_wp2_with fail
        go_ret2
        exact ⟨by show Ending.returned (.tuple #[.int .i64 (wrap64 m), .int .i64 0]) = _; rw [e1], rfl⟩
      · have d1 : (a == -1) = false := by simp [h1]
        clear hin hyes
        go_enter Try.func42, Try.ntmps42
        go_wp2_with fail
        go_ret2
        exact ⟨by show Ending.returned (.tuple #[.int .i64 (wrap64 m), .int .i64 0]) = _; rw [e1], rfl⟩

set_option maxHeartbeats 1000000 in
theorem rtwo_any (n : Nat) (a b : Int) (w : World) (hn : (n : Int) ≤ 255) (ha : -9223372036854775808 ≤ a ∧ a ≤ 9223372036854775807) (hb : -9223372036854775808 ≤ b ∧ b ≤ 9223372036854775807) :
    Calls Try.prog 42 #[.int .u8 (n : Int), .int .i64 a, .int .i64 b] w fun e w' => e = .returned (.tuple #[.int .i64 (twoR n a b).1, .int .i64 (twoR n a b).2]) ∧ w = w' := by
  rcases op_cases n with rfl | rfl | rfl | rfl | ⟨⟨h1, h2⟩, h3, h4⟩
  · exact rtwo_add a b w ha hb
  · exact rtwo_sub a b w ha hb
  · exact rtwo_mul a b w ha hb
  · rw [show twoR 16 a b = (if a < b then 1 else 0, 0) from rfl]
    by_cases h : a < b
    · rw [if_pos h]
      have hd : decide (a < b) = true := by simp [h]
      go_enter Try.func42, Try.ntmps42
      go_wp2_with fail
      go_ret2
      exact ⟨rfl, rfl⟩
    · rw [if_neg h]
      have hd : decide (a < b) = false := by simp; omega
      go_enter Try.func42, Try.ntmps42
      go_wp2_with fail
      go_ret2
      exact ⟨rfl, rfl⟩
  · rw [show twoR n a b = (0, 2) by unfold twoR; rw [if_neg h1, if_neg h2, if_neg h3, if_neg h4]]
    have d1 : ((n : Int) == 13) = false := by simp; omega
    have d2 : ((n : Int) == 14) = false := by simp; omega
    have d3 : ((n : Int) == 15) = false := by simp; omega
    have d4 : ((n : Int) == 16) = false := by simp; omega
    clear h1 h2 h3 h4
    go_enter Try.func42, Try.ntmps42
    go_wp2_with fail
    go_ret2
    exact ⟨rfl, rfl⟩
end Go.Proofs.Ytbhoflmdhlchlaa
