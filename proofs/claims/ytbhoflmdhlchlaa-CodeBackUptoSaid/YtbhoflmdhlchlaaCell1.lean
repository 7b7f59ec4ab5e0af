/- CONTRACTS OF LAYER 12: add, sub, sizeOf, mul, Two; the document's Two. -/
import Derived.Test.YtbhoflmdhlchlaaCellPure
import Derived.Test.YtbhoflmdhlchlaaSame
import Derived.Test.YtbhoflmdhlchlaaShelf
import Derived.Outline
namespace Go.Proofs.Ytbhoflmdhlchlaa
open Go Go.RowKit
set_option linter.unusedVariables false
set_option linter.unusedSimpArgs false

set_option maxHeartbeats 400000 in
theorem cadd_any (a b : Int) (w : World) (ha : -9223372036854775808 ≤ a ∧ a ≤ 9223372036854775807) (hb : -9223372036854775808 ≤ b ∧ b ≤ 9223372036854775807) :
    Calls Try.prog 62 #[.int .i64 a, .int .i64 b] w fun e w' => e = .returned (.tuple #[.int .i64 (okR (a + b)).1, .int .i64 (okR (a + b)).2]) ∧ w = w' := by
  have ht := add_test a b ha hb
  have hv := Lib.hid (add_val a b)
  obtain ⟨a1, a2⟩ := ha
  obtain ⟨b1, b2⟩ := hb
  cases h : inR (a + b)
  · rw [okR_no h]
    rw [h] at ht
    clear hv h
    go_enter Try.func62, Try.ntmps62
    go_wp2
    go_ret2
    exact ⟨rfl, rfl⟩
  · rw [okR_yes h]
    rw [h] at ht
    have hv := hv.out h
    clear h
    go_enter Try.func62, Try.ntmps62
    go_wp2
    go_ret2
    exact ⟨rfl, rfl⟩
set_option maxHeartbeats 400000 in
theorem csub_any (a b : Int) (w : World) (ha : -9223372036854775808 ≤ a ∧ a ≤ 9223372036854775807) (hb : -9223372036854775808 ≤ b ∧ b ≤ 9223372036854775807) :
    Calls Try.prog 63 #[.int .i64 a, .int .i64 b] w fun e w' => e = .returned (.tuple #[.int .i64 (okR (a - b)).1, .int .i64 (okR (a - b)).2]) ∧ w = w' := by
  have ht := sub_test a b ha hb
  have hv := Lib.hid (sub_val a b)
  obtain ⟨a1, a2⟩ := ha
  obtain ⟨b1, b2⟩ := hb
  cases h : inR (a - b)
  · rw [okR_no h]
    rw [h] at ht
    clear hv h
    go_enter Try.func63, Try.ntmps63
    go_wp2
    go_ret2
    exact ⟨rfl, rfl⟩
  · rw [okR_yes h]
    rw [h] at ht
    have hv := hv.out h
    clear h
    go_enter Try.func63, Try.ntmps63
    go_wp2
    go_ret2
    exact ⟨rfl, rfl⟩
theorem csize_any (a : Int) (w : World) (ha : -9223372036854775808 ≤ a ∧ a ≤ 9223372036854775807) :
    Calls Try.prog 72 #[.int .i64 a] w fun e w' => e = .returned (.int .u64 (a.natAbs : Int)) ∧ w = w' := by
  obtain ⟨a1, a2⟩ := ha
  by_cases h : a < 0
  · have hv : IntKind.u64.wrap (-IntKind.u64.wrap a) = (a.natAbs : Int) := by simp only [u64_mod]; omega
    have hv2 : IntKind.u64.wrap (0 - IntKind.u64.wrap a) = (a.natAbs : Int) := by simp only [u64_mod]; omega
    go_enter Try.func72, Try.ntmps72
    go_wp2
    go_ret
    exact ⟨rfl, rfl⟩
  · have hv : IntKind.u64.wrap a = (a.natAbs : Int) := by simp only [u64_mod]; omega
    have h2 : 0 ≤ a := by omega
    have hd : decide (a < 0) = false := by simp; omega
    go_enter Try.func72, Try.ntmps72
    go_wp2
    go_ret
    exact ⟨rfl, rfl⟩

set_option maxHeartbeats 1000000 in
theorem cmul_any (a b : Int) (w : World) (ha : -9223372036854775808 ≤ a ∧ a ≤ 9223372036854775807) (hb : -9223372036854775808 ≤ b ∧ b ≤ 9223372036854775807) :
    Calls Try.prog 64 #[.int .i64 a, .int .i64 b] w fun e w' => e = .returned (.tuple #[.int .i64 (okR (a * b)).1, .int .i64 (okR (a * b)).2]) ∧ w = w' := by
  obtain ⟨sg, hs, hc⟩ := mul_sign a b ha hb
  have H1 := Lib.hid (fun w => csize_any a w ha)
  have H2 := Lib.hid (fun w => csize_any b w hb)
  have HM := Lib.hid (fun w => Try.bits_Mul64 a.natAbs b.natAbs (by omega) (by omega) w)
  have hp : a.natAbs * b.natAbs / 18446744073709551616 * 18446744073709551616 + a.natAbs * b.natAbs % 18446744073709551616 = a.natAbs * b.natAbs := by omega
  generalize a.natAbs * b.natAbs = p at *
  have hlo : p % 18446744073709551616 < 18446744073709551616 := Nat.mod_lt _ (by decide)
  generalize p / 18446744073709551616 = hi at *
  generalize p % 18446744073709551616 = lo at *
  generalize hm : a * b = m at *
  replace hm := Lib.hid hm
  generalize a.natAbs = A at *
  generalize b.natAbs = B at *
  obtain ⟨a1, a2⟩ := ha
  obtain ⟨b1, b2⟩ := hb
  have hsg : (sg : Int) ≤ 1 := by omega
  have hlo' : (lo : Int) ≤ 18446744073709551615 := by omega
  have hw : IntKind.u64.wrap (9223372036854775807 + (sg : Int)) = 9223372036854775807 + (sg : Int) := IntWalk.u64_in _ (by omega)
  cases hin : inR m
  · rw [okR_no hin]
    have hnot : ¬ (-9223372036854775808 ≤ m ∧ m ≤ 9223372036854775807) := by unfold inR at hin; exact of_decide_eq_false hin
    by_cases hhi : hi = 0
    · have d1 : ((hi : Int) != 0) = false := by simp [hhi]
      have d2 : decide (9223372036854775807 + (sg : Int) < (lo : Int)) = true := by simp; omega
      clear hin hnot hc hp hhi
      go_enter Try.func64, Try.ntmps64
      go_wp2_with fail
      refine (H1.out w).mono ?_
      rintro e w1 ⟨rfl, rfl⟩
      go_wp2_with fail
      refine (H2.out w).mono ?_
      rintro e w1 ⟨rfl, rfl⟩
      go_wp2_with fail
      refine (HM.out w).mono ?_
      rintro e w1 ⟨rfl, rfl⟩
      go_wp2_with fail
      go_ret2
      exact ⟨rfl, rfl⟩
    · have d1 : ((hi : Int) != 0) = true := by simp; omega
      clear hin hnot hc hp hhi
      go_enter Try.func64, Try.ntmps64
      go_wp2_with fail
      refine (H1.out w).mono ?_
      rintro e w1 ⟨rfl, rfl⟩
      go_wp2_with fail
      refine (H2.out w).mono ?_
      rintro e w1 ⟨rfl, rfl⟩
      go_wp2_with fail
      refine (HM.out w).mono ?_
      rintro e w1 ⟨rfl, rfl⟩
      go_wp2_with fail
      go_ret2
      exact ⟨rfl, rfl⟩
  · rw [okR_yes hin]
    have hyes : -9223372036854775808 ≤ m ∧ m ≤ 9223372036854775807 := by unfold inR at hin; exact of_decide_eq_true hin
    have hhi : hi = 0 := by omega
    have d1 : ((hi : Int) != 0) = false := by simp [hhi]
    have d2 : decide (9223372036854775807 + (sg : Int) < (lo : Int)) = false := by simp; omega
    rcases hc with ⟨rfl, hc⟩ | ⟨rfl, hc⟩
    · have hv : IntKind.i64.wrap (lo : Int) = m := by rw [i64_wrap_in _ (by omega)]; omega
      have d3 : decide ((9223372036854775807 : Int) < (lo : Int)) = false := by simp; omega
      clear hin hc hp hhi hyes hw hsg
      go_enter Try.func64, Try.ntmps64
      go_wp2_with fail
      refine (H1.out w).mono ?_
      rintro e w1 ⟨rfl, rfl⟩
      go_wp2_with fail
      refine (H2.out w).mono ?_
      rintro e w1 ⟨rfl, rfl⟩
      go_wp2_with fail
      refine (HM.out w).mono ?_
      rintro e w1 ⟨rfl, rfl⟩
      go_wp2_with fail
      go_ret2
      exact ⟨rfl, rfl⟩
    · have hv : IntKind.i64.wrap (IntKind.u64.wrap (-(lo : Int))) = m := i64_mod m hin _ (by rw [u64_mod]; omega)
      have d3 : decide ((9223372036854775808 : Int) < (lo : Int)) = false := by simp; omega
      have hv2 : IntKind.i64.wrap (IntKind.u64.wrap (0 - (lo : Int))) = m := i64_mod m hin _ (by rw [u64_mod]; omega)
      clear hin hc hp hhi hyes hw hsg
      go_enter Try.func64, Try.ntmps64
      go_wp2_with fail
      refine (H1.out w).mono ?_
      rintro e w1 ⟨rfl, rfl⟩
      go_wp2_with fail
      refine (H2.out w).mono ?_
      rintro e w1 ⟨rfl, rfl⟩
      go_wp2_with fail
      refine (HM.out w).mono ?_
      rintro e w1 ⟨rfl, rfl⟩
      go_wp2_with fail
      go_ret2
      exact ⟨rfl, rfl⟩

theorem op_cases (n : Nat) : n = 13 ∨ n = 14 ∨ n = 15 ∨ n = 16 ∨ ((n ≠ 13 ∧ n ≠ 14) ∧ n ≠ 15 ∧ n ≠ 16) := by omega
set_option maxHeartbeats 1000000 in
theorem ctwo_any (n : Nat) (a b : Int) (w : World) (hn : (n : Int) ≤ 255) (ha : -9223372036854775808 ≤ a ∧ a ≤ 9223372036854775807) (hb : -9223372036854775808 ≤ b ∧ b ≤ 9223372036854775807) :
    Calls Try.prog 41 #[.int .u8 (n : Int), .int .i64 a, .int .i64 b] w fun e w' => e = .returned (.tuple #[.int .i64 (twoR n a b).1, .int .i64 (twoR n a b).2]) ∧ w = w' := by
  have H1 := Lib.hid (fun w => cadd_any a b w ha hb)
  have H2 := Lib.hid (fun w => csub_any a b w ha hb)
  have H3 := Lib.hid (fun w => cmul_any a b w ha hb)
  rcases op_cases n with rfl | rfl | rfl | rfl | ⟨⟨h1, h2⟩, h3, h4⟩
  · rw [show twoR 13 a b = okR (a + b) from rfl]
    generalize okR (a + b) = r at *
    clear ha hb
    go_enter Try.func41, Try.ntmps41
    go_wp2_with (go_at_call 62; refine (H1.out _).mono ?_; rintro e w1 ⟨rfl, rfl⟩)
    go_ret2
    exact ⟨rfl, rfl⟩
  · rw [show twoR 14 a b = okR (a - b) from rfl]
    generalize okR (a - b) = r at *
    clear ha hb
    go_enter Try.func41, Try.ntmps41
    go_wp2_with (go_at_call 63; refine (H2.out _).mono ?_; rintro e w1 ⟨rfl, rfl⟩)
    go_ret2
    exact ⟨rfl, rfl⟩
  · rw [show twoR 15 a b = okR (a * b) from rfl]
    generalize okR (a * b) = r at *
    clear ha hb
    go_enter Try.func41, Try.ntmps41
    go_wp2_with (go_at_call 64; refine (H3.out _).mono ?_; rintro e w1 ⟨rfl, rfl⟩)
    go_ret2
    exact ⟨rfl, rfl⟩
  · rw [show twoR 16 a b = (if a < b then 1 else 0, 0) from rfl]
    by_cases h : a < b
    · rw [if_pos h]
      have hd : decide (a < b) = true := by simp [h]
      go_enter Try.func41, Try.ntmps41
      go_wp2_with fail
      go_ret2
      exact ⟨rfl, rfl⟩
    · rw [if_neg h]
      have hd : decide (a < b) = false := by simp; omega
      go_enter Try.func41, Try.ntmps41
      go_wp2_with fail
      go_ret2
      exact ⟨rfl, rfl⟩
  · rw [show twoR n a b = (0, 2) by unfold twoR; rw [if_neg h1, if_neg h2, if_neg h3, if_neg h4]]
    have d1 : ((n : Int) == 13) = false := by simp; omega
    have d2 : ((n : Int) == 14) = false := by simp; omega
    have d3 : ((n : Int) == 15) = false := by simp; omega
    have d4 : ((n : Int) == 16) = false := by simp; omega
    clear h1 h2 h3 h4
    go_enter Try.func41, Try.ntmps41
    go_wp2_with fail
    go_ret2
    exact ⟨rfl, rfl⟩
end Go.Proofs.Ytbhoflmdhlchlaa
