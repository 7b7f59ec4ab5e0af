/- LAYER 5: the walks of PlaneBack and PlaneParts. -/
import Derived.Test.YtdbokmhkgkgnfaaLawPl1
import Derived.Test.YtdbokmhkgkgnfaaPl10
namespace Go.Proofs.Ytdbokmhkgkgnfaa
open Go Go.RowKit
set_option linter.unusedVariables false
set_option linter.unusedSimpArgs false
theorem nx_of_eq {P : Program} {f : FuncId} {args : Array Value} {w : World} {V : Value} (h : Calls P f args w fun e w' => e = .returned V ∧ w' = w) : Calls P f args w fun e w' => e = .returned V ∧ Nx w w' :=
  h.mono fun e w' ⟨h1, h2⟩ => ⟨h1, by subst h2; exact Nx.refl _⟩
set_option maxRecDepth 100000 in
set_option maxHeartbeats 8000000 in
theorem planeBack_law {w : World} (a : Int) (ha : -2147483648 ≤ a) (ha2 : a ≤ 2147483647) (b : Int) (hb : -2147483648 ≤ b) (hb2 : b ≤ 2147483647) (k : Int) (hk : -9223372036854775808 ≤ k) (hk2 : k ≤ 9223372036854775807) : Calls Try.prog 4 #[.int .i32 a, .int .i32 b, .int .i64 k] w fun e w' => e = .returned (.bool true) ∧ Nx w w' := by
  have HSm := Lib.hid (small_any a b ha ha2 hb hb2)
  have b1 := tmod_bound a
  have b2 := tmod_bound b
  generalize Int.tmod a 8388608 = x at *
  generalize Int.tmod b 8388608 = y at *
  have HSp := Lib.hid (spot_any x y (by omega) (by omega))
  have HC := spot_cf x y (by omega) (by omega)
  have HBK := Lib.hid (back_any HC (by omega) (by omega))
  have HRB := Lib.hid (rback_any x y (by omega) (by omega))
  have HT := Lib.hid (fun w => nx_of_eq (turn_v (floatOfInt .f64 x) (floatOfInt .f64 y) k w))
  have hcT := turn_cf HC k
  have HRT := Lib.hid (rturn_any x y (by omega) (by omega) k)
  obtain ⟨t1, t2⟩ := tr_abs k x y 8388608 (by omega) (by omega)
  have HSt := Lib.hid (spot_any (trA k x y) (trB k x y) (by omega) (by omega))
  have HCt := spot_cf (trA k x y) (trB k x y) (by omega) (by omega)
  have o1 := ord_eq hcT.1 HCt.1 rfl
  have o2 := ord_eq hcT.2 HCt.2 rfl
  have HL := Lib.hid (fun w => nx_of_eq (lives_any w))
  have cz := Lib.hid info_spot
  clear HC hcT t1 t2 HCt b1 b2 ha ha2 hb hb2 hk hk2
  generalize floatOfInt .f64 (trA k x y) = gx at *
  generalize floatOfInt .f64 (trB k x y) = gy at *
  generalize tR k (floatOfInt .f64 x) (floatOfInt .f64 y) = ux at *
  generalize tI k (floatOfInt .f64 x) (floatOfInt .f64 y) = uy at *
  generalize floatOfInt .f64 x = fx at *
  generalize floatOfInt .f64 y = fy at *
  generalize trA k x y = tx at *
  generalize trB k x y = ty at *
  generalize plN x y = n at *
  generalize plE x y = E at *
  go_enter Try.func4, Try.ntmps4
  go_wp2_with fail
  refine (HSm.out _).mono ?_
  rintro e w1 ⟨rfl, n1⟩
  have R := Row.new w1 #[.int .i64 x, .int .i64 y] 28 _ rfl
  have N := Lib.hid (n1.alloc (.cells #[.int .i64 x, .int .i64 y] 28))
  clear n1
  go_wp2_with (refine wpList_load_row rfl 28 (.tmp 7) rfl w1.heap.size rfl 28 #[.int .i64 x, .int .i64 y] (0, 0) _ R Try.underlying28 rfl cz.out ?_)
  refine (HSp.out _).mono ?_
  rintro e w2 ⟨rfl, n2⟩
  replace R := R.nx n2
  replace N := Lib.hid (N.out.trans n2)
  clear n2
  go_wp2_with fail
  refine (HBK.out _).mono ?_
  rintro e w3 ⟨rfl, rfl⟩
  go_wp2_with (refine wpList_load_row rfl 28 (.tmp 7) rfl w1.heap.size rfl 28 #[.int .i64 x, .int .i64 y] (0, 0) _ R Try.underlying28 rfl cz.out ?_)
  refine (HRB.out _).mono ?_
  rintro e w4 ⟨rfl, n4⟩
  replace R := R.nx n4
  replace N := Lib.hid (N.out.trans n4)
  clear n4
  go_wp2_with fail
  generalize w1.heap.size = g at *
  have qh := Lib.hid (fun (w' : World) (hw : ∃ p : Regrown, w' = Sort.grow (redrawn w4 p.d) p.os) => show Row w' g #[.int .i64 x, .int .i64 y] 28 by obtain ⟨p, rfl⟩ := hw; exact Row.nx R (below_regrown w4 p.d p.os))
  clear R
  refine wp_region_quiet_below (by kernel_rfl) (by kernel_rfl) ?_
  repeat (first
    | (refine wpQuiet_step (fun K hK => ?_); rw [if_pos (by rfl)]; refine quiet_load 28 (.tmp 7) rfl g rfl 28 #[.int .i64 x, .int .i64 y] (0, 0) _ qh.out Try.underlying28 rfl cz.out ?_; refine hK _ ?_; clear hK K)
    | quiet_step ((first
      | (go_at_call 18; (first | with_reducible exact Calls.regrown_of (HSp.out _) | with_reducible exact Calls.regrown_of (HSt.out _)))
      | (go_at_call 24; with_reducible exact Calls.regrown_of (HT.out _))
      | (go_at_call 25; with_reducible exact Calls.regrown_of (HRT.out _))
      | (go_at_call 20; with_reducible exact Calls.regrown_of (HL.out _)))))
  refine wpQuiet_nil ?_
  intro _ hw'
  obtain ⟨⟨dq, osq⟩, hw''⟩ := hw'
  subst hw''
  go_wp2
  go_ret
  exact ⟨rfl, N.out.trans (below_regrown w4 dq osq)⟩
theorem isF_24 : IsF 4715268809856909312 (16777216 * 1024) := by
  have h := ofInt_is 16777216 (by decide)
  have e : floatOfInt .f64 16777216 = 4715268809856909312 := by decide
  rwa [e] at h
set_option maxRecDepth 100000 in
set_option maxHeartbeats 8000000 in
theorem planeParts_law {w : World} (a : Int) (ha : -2147483648 ≤ a) (ha2 : a ≤ 2147483647) (b : Int) (hb : -2147483648 ≤ b) (hb2 : b ≤ 2147483647) (o : Nat) (ho : (o : Int) ≤ 255) : Calls Try.prog 8 #[.int .i32 a, .int .i32 b, .int .u8 (o : Int)] w fun e w' => e = .returned (.bool true) ∧ Nx w w' := by
  have HSm := Lib.hid (small_any a b ha ha2 hb hb2)
  have b1 := tmod_bound a
  have b2 := tmod_bound b
  generalize Int.tmod a 8388608 = x at *
  generalize Int.tmod b 8388608 = y at *
  obtain ⟨c, hc⟩ : ∃ c : Int, (o : Int) % 255 + 1 = c := ⟨_, rfl⟩
  have hw : IntKind.u8.wrap c = c := by rw [IntKind.wrap_u8]; omega
  have hc1 : 1 ≤ c ∧ c ≤ 255 := by omega
  have HC := spot_cf x y (by omega) (by omega)
  have fc := ofInt_is c (by omega)
  have kd := run_fdiv (P := Try.prog) fc (z := 4 * c) (by omega) (by omega) (by omega)
  have fh := (div256_is fc (z := 4 * c) (by omega) (by omega) (by omega)).2
  have ka := run_fadd (P := Try.prog) HC.1 fh (by omega)
  have fa := (add_is HC.1 fh (by omega)).2
  have ks := run_fsub (P := Try.prog) HC.2 fh (by omega)
  have fs := (sub_is HC.2 fh (by omega)).2
  have kg := run_fadd (P := Try.prog) HC.1 isF_24 (by omega)
  have fg := (add_is HC.1 isF_24 (by omega)).2
  have B1 := Lib.hid (back_bad fa HC.2 (by omega) (by omega) (by
    have : whl (x * 1024 + 4 * c) = false := by
      unfold whl
      rw [show decide ((x * 1024 + 4 * c) % 1024 = 0) = false by rw [decide_eq_false_iff_not]; omega]
      simp
    rw [this]; rfl))
  have B2 := Lib.hid (back_bad HC.1 fs (by omega) (by omega) (by
    have : whl (y * 1024 - 4 * c) = false := by
      unfold whl
      rw [show decide ((y * 1024 - 4 * c) % 1024 = 0) = false by rw [decide_eq_false_iff_not]; omega]
      simp
    rw [this, Bool.and_false]))
  have B3 := Lib.hid (back_bad fg HC.2 (by omega) (by omega) (by
    have : whl (x * 1024 + 16777216 * 1024) = false := by
      unfold whl
      rw [show decide (x * 1024 + 16777216 * 1024 < 4194304 * 1024) = false by rw [decide_eq_false_iff_not]; omega]
      simp
    rw [this]; rfl))
  clear HC fc fh fa fs fg b1 b2 ha ha2 hb hb2 hc1
  generalize fdiv (floatOfInt .f64 c) 4643211215818981376 = h at *
  generalize fadd (floatOfInt .f64 x) h = p1 at *
  generalize fsub (floatOfInt .f64 y) h = p2 at *
  generalize fadd (floatOfInt .f64 x) 4715268809856909312 = p3 at *
  generalize hfx : floatOfInt .f64 x = fx at *
  generalize hfy : floatOfInt .f64 y = fy at *
  go_enter Try.func8, Try.ntmps8
  go_wp2_with fail
  refine (HSm.out _).mono ?_
  rintro e w1 ⟨rfl, n1⟩
  have R := Row.new w1 #[.int .i64 x, .int .i64 y] 28 _ rfl
  have N := Lib.hid (n1.alloc (.cells #[.int .i64 x, .int .i64 y] 28))
  clear n1
  go_wp2_with fail
  generalize (w1.alloc (.cells #[.int .i64 x, .int .i64 y] 28)) = W at *
  have qa0 : ∀ d os, (Sort.grow (redrawn W d) os).cell? ⟨w1.heap.size, 0, none⟩ = some (.int .i64 x) := fun d os => cell_regrown (R.cell (i := 0) (v := .int .i64 x) rfl) d os
  have qa1 : ∀ d os, (Sort.grow (redrawn W d) os).cell? ⟨w1.heap.size, 1, none⟩ = some (.int .i64 y) := fun d os => cell_regrown (R.cell (i := 1) (v := .int .i64 y) rfl) d os
  clear R
  refine wp_region_quiet_below (by kernel_rfl) (by kernel_rfl) ?_
  repeat (quiet_step (fail))
  refine wpQuiet_nil ?_
  intro _ hw'
  obtain ⟨⟨dq, osq⟩, hw''⟩ := hw'
  subst hw''
  replace N := Lib.hid (N.out.trans (below_regrown W dq osq))
  clear qa0 qa1
  generalize Sort.grow (redrawn W dq) osq = W2 at *
  go_wp2_with fail
  refine (B1.out _).mono ?_
  rintro e w3 ⟨rfl, rfl⟩
  go_wp2_with fail
  refine (B2.out _).mono ?_
  rintro e w3 ⟨rfl, rfl⟩
  go_wp2_with fail
  refine (B3.out _).mono ?_
  rintro e w3 ⟨rfl, rfl⟩
  go_wp2_with fail
  refine (lives_any _).mono ?_
  rintro e w3 ⟨rfl, rfl⟩
  go_wp2_with fail
  go_ret
  exact ⟨rfl, N.out⟩
end Go.Proofs.Ytdbokmhkgkgnfaa
