/- LAYER 12: the walks of CellTwo, CellOrder, CellNumbers, CellBack. -/
import Derived.Test.YtbhoflmdhlchlaaCell6
namespace Go.Proofs.Ytbhoflmdhlchlaa
open Go Go.RowKit
set_option linter.unusedVariables false
set_option linter.unusedSimpArgs false

theorem twoR_cases (n : Nat) (a b : Int) : ∃ x e : Int, twoR n a b = (x, e) := ⟨_, _, rfl⟩
set_option maxHeartbeats 1000000 in
theorem cellTwo_law {w : World} (n : Nat) (hn : (n : Int) ≤ 255) (a : Int) (a1 : -9223372036854775808 ≤ a) (a2 : a ≤ 9223372036854775807) (b : Int) (b1 : -9223372036854775808 ≤ b) (b2 : b ≤ 9223372036854775807) :
    Calls Try.prog 10 #[.int .u8 (n : Int), .int .i64 a, .int .i64 b] w fun e w' => e = .returned (.bool true) ∧ Nx w w' := by
  have H1 := Lib.hid (fun w => ctwo_any n a b w hn ⟨a1, a2⟩ ⟨b1, b2⟩)
  have H2 := Lib.hid (fun w => rtwo_any n a b w hn ⟨a1, a2⟩ ⟨b1, b2⟩)
  have e1 : ∀ x : Int, (x == x) = true := fun x => by simp
  generalize twoR n a b = r at *
  obtain ⟨x, y⟩ := r
  go_enter Try.func10, Try.ntmps10
  go_wp2_with fail
  refine (H1.out w).mono ?_
  rintro e w1 ⟨rfl, rfl⟩
  go_wp2_with fail
  refine (H2.out w).mono ?_
  rintro e w1 ⟨rfl, rfl⟩
  go_wp2_with fail
  refine (clives_any w).mono ?_
  rintro e w1 ⟨rfl, n1⟩
  go_wp2_with fail
  go_ret
  exact ⟨rfl, n1⟩
theorem okR_back (a b : Int) (a1 : -9223372036854775808 ≤ a) (a2 : a ≤ 9223372036854775807) (h : (okR (a - b)).2 = 0) : okR ((okR (a - b)).1 + b) = (a, 0) := by
  cases hin : inR (a - b)
  · rw [okR_no hin] at h; cases h
  · rw [okR_yes hin]
    show okR (a - b + b) = _
    rw [Int.sub_add_cancel]
    exact okR_yes (by unfold inR; exact decide_eq_true ⟨a1, a2⟩)
theorem okR_range (x : Int) : -9223372036854775808 ≤ (okR x).1 ∧ (okR x).1 ≤ 9223372036854775807 := by
  cases hin : inR x
  · rw [okR_no hin]; exact ⟨by show (-9223372036854775808 : Int) ≤ 0; omega, by show (0 : Int) ≤ 9223372036854775807; omega⟩
  · rw [okR_yes hin]
    unfold inR at hin
    exact of_decide_eq_true hin
set_option maxHeartbeats 2000000 in
set_option maxRecDepth 100000 in
theorem cellOrder_law {w : World} (a : Int) (a1 : -9223372036854775808 ≤ a) (a2 : a ≤ 9223372036854775807) (b : Int) (b1 : -9223372036854775808 ≤ b) (b2 : b ≤ 9223372036854775807) :
    Calls Try.prog 12 #[.int .i64 a, .int .i64 b] w fun e w' => e = .returned (.bool true) ∧ Nx w w' := by
  have H1 : Hid (∀ w, Calls Try.prog 41 #[.int .u8 13, .int .i64 a, .int .i64 b] w fun e w' => e = .returned (.tuple #[.int .i64 (okR (a + b)).1, .int .i64 (okR (a + b)).2]) ∧ w = w') := Lib.hid fun w => ctwo_any 13 a b w (by decide) ⟨a1, a2⟩ ⟨b1, b2⟩
  have H2 : Hid (∀ w, Calls Try.prog 41 #[.int .u8 13, .int .i64 b, .int .i64 a] w fun e w' => e = .returned (.tuple #[.int .i64 (okR (a + b)).1, .int .i64 (okR (a + b)).2]) ∧ w = w') := Lib.hid fun w => by
    have := ctwo_any 13 b a w (by decide) ⟨b1, b2⟩ ⟨a1, a2⟩
    rwa [show twoR 13 b a = okR (b + a) from rfl, Int.add_comm] at this
  have H3 : Hid (∀ w, Calls Try.prog 41 #[.int .u8 15, .int .i64 a, .int .i64 b] w fun e w' => e = .returned (.tuple #[.int .i64 (okR (a * b)).1, .int .i64 (okR (a * b)).2]) ∧ w = w') := Lib.hid fun w => ctwo_any 15 a b w (by decide) ⟨a1, a2⟩ ⟨b1, b2⟩
  have H4 : Hid (∀ w, Calls Try.prog 41 #[.int .u8 15, .int .i64 b, .int .i64 a] w fun e w' => e = .returned (.tuple #[.int .i64 (okR (a * b)).1, .int .i64 (okR (a * b)).2]) ∧ w = w') := Lib.hid fun w => by
    have := ctwo_any 15 b a w (by decide) ⟨b1, b2⟩ ⟨a1, a2⟩
    rwa [show twoR 15 b a = okR (b * a) from rfl, Int.mul_comm] at this
  have H5 : Hid (∀ w, Calls Try.prog 41 #[.int .u8 14, .int .i64 a, .int .i64 b] w fun e w' => e = .returned (.tuple #[.int .i64 (okR (a - b)).1, .int .i64 (okR (a - b)).2]) ∧ w = w') := Lib.hid fun w => ctwo_any 14 a b w (by decide) ⟨a1, a2⟩ ⟨b1, b2⟩
  have H6 : Hid (∀ w, Calls Try.prog 41 #[.int .u8 13, .int .i64 (okR (a - b)).1, .int .i64 b] w fun e w' => e = .returned (.tuple #[.int .i64 (okR ((okR (a - b)).1 + b)).1, .int .i64 (okR ((okR (a - b)).1 + b)).2]) ∧ w = w') := Lib.hid fun w => ctwo_any 13 _ b w (by decide) (okR_range _) ⟨b1, b2⟩
  have HBK := Lib.hid (okR_back a b a1 a2)
  have e1 : ∀ x : Int, (x == x) = true := fun x => by simp
  generalize okR (a + b) = r1 at *
  generalize okR (a * b) = r2 at *
  generalize okR (a - b) = r3 at *
  obtain ⟨x1, y1⟩ := r1
  obtain ⟨x2, y2⟩ := r2
  obtain ⟨x3, y3⟩ := r3
  by_cases h3 : y3 = 0
  · subst h3
    have hb := HBK.out rfl
    rw [hb] at H6
    clear HBK hb
    go_enter Try.func12, Try.ntmps12
    go_wp2_with fail
    refine (H1.out w).mono ?_
    rintro e w1 ⟨rfl, rfl⟩
    go_wp2_with fail
    refine (H2.out w).mono ?_
    rintro e w1 ⟨rfl, rfl⟩
    go_wp2_with fail
    refine (H3.out w).mono ?_
    rintro e w1 ⟨rfl, rfl⟩
    go_wp2_with fail
    refine (H4.out w).mono ?_
    rintro e w1 ⟨rfl, rfl⟩
    go_wp2_with fail
    refine (H5.out w).mono ?_
    rintro e w1 ⟨rfl, rfl⟩
    go_wp2_with fail
    refine (H6.out w).mono ?_
    rintro e w1 ⟨rfl, rfl⟩
    go_wp2_with fail
    refine (clives_any w).mono ?_
    rintro e w1 ⟨rfl, n1⟩
    go_wp2_with fail
    go_ret
    exact ⟨rfl, n1⟩
  · have d3 : (y3 != 0) = true := by simp [h3]
    clear HBK h3
    generalize okR (x3 + b) = r4 at *
    obtain ⟨x4, y4⟩ := r4
    go_enter Try.func12, Try.ntmps12
    go_wp2_with fail
    refine (H1.out w).mono ?_
    rintro e w1 ⟨rfl, rfl⟩
    go_wp2_with fail
    refine (H2.out w).mono ?_
    rintro e w1 ⟨rfl, rfl⟩
    go_wp2_with fail
    refine (H3.out w).mono ?_
    rintro e w1 ⟨rfl, rfl⟩
    go_wp2_with fail
    refine (H4.out w).mono ?_
    rintro e w1 ⟨rfl, rfl⟩
    go_wp2_with fail
    refine (H5.out w).mono ?_
    rintro e w1 ⟨rfl, rfl⟩
    go_wp2_with fail
    refine (H6.out w).mono ?_
    rintro e w1 ⟨rfl, rfl⟩
    go_wp2_with fail
    refine (clives_any w).mono ?_
    rintro e w1 ⟨rfl, n1⟩
    go_wp2_with fail
    go_ret
    exact ⟨rfl, n1⟩
end Go.Proofs.Ytbhoflmdhlchlaa
