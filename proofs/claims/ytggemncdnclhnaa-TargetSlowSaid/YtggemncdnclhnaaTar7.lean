/- LAYER 4: what a law lives by. -/
import Derived.Test.YtggemncdnclhnaaTar6
import Derived.Test.YtggemncdnclhnaaRefOf
namespace Go.Proofs.Ytggemncdnclhnaa
open Go.RowKit
set_option linter.unusedVariables false
set_option linter.unusedSimpArgs false

theorem lim_e : ofE 545259519 = 0 := by decide +kernel
theorem lim_3 : lim (ofT 545259519) 3 = 9223370937343148032 := by decide +kernel
theorem lim_w : wkN 545259519 = 2 := by decide +kernel
theorem lim_n : nxN 545259519 480 = 545259519 := by decide +kernel
theorem bad_e : ofE 50331649 = 5 := by decide +kernel
theorem of_lim (w : World) : Calls Try.prog 40 #[.int .u32 545259519] w fun e w' => e = .returned (.tuple #[.agg #[.int .u64 (lim (ofT 545259519) 0 : Int), .int .u64 (lim (ofT 545259519) 1 : Int), .int .u64 (lim (ofT 545259519) 2 : Int), .int .u64 (lim (ofT 545259519) 3 : Int)], .int .i64 0]) ∧ Nx w w' := by
  have h := tof_any 545259519 w (by omega)
  rw [lim_e] at h
  exact h
theorem work_lim (w : World) : Calls Try.prog 42 #[.int .u32 545259519] w fun e w' => e = .returned (.tuple #[.agg #[.int .u64 (lim 2 0 : Int), .int .u64 (lim 2 1 : Int), .int .u64 (lim 2 2 : Int), .int .u64 (lim 2 3 : Int)], .int .i64 0]) ∧ Nx w w' := by
  have h := twork_any 545259519 w (by omega)
  rw [lim_w, lim_e] at h
  exact h
theorem of_bad (w : World) : Calls Try.prog 40 #[.int .u32 50331649] w fun e w' => e = .returned (.tuple #[.agg #[.int .u64 (lim (ofT 50331649) 0 : Int), .int .u64 (lim (ofT 50331649) 1 : Int), .int .u64 (lim (ofT 50331649) 2 : Int), .int .u64 (lim (ofT 50331649) 3 : Int)], .int .i64 5]) ∧ Nx w w' := by
  have h := tof_any 50331649 w (by omega)
  rw [bad_e] at h
  exact h
theorem next_lim (w : World) : Calls Try.prog 47 #[.int .u32 545259519, .int .u32 480] w fun e w' => e = .returned (.tuple #[.int .u32 545259519, .int .i64 0]) ∧ Nx w w' := by
  have h := tnext_any 545259519 480 w (by omega)
  rw [lim_n, lim_e] at h
  exact h
theorem refOf_2 (w : World) : Calls Try.prog 16 #[.int .u64 2] w fun e w' => e = .returned (.agg #[.int .u64 (lim 2 0 : Int), .int .u64 (lim 2 1 : Int), .int .u64 (lim 2 2 : Int), .int .u64 (lim 2 3 : Int)]) ∧ Nx w w' := refOf_any 2 w (by omega)
theorem subs_16 (w : World) : Calls Try.prog 51 #[.int .u32 16] w fun e w' => e = .returned (.int .u64 2500000000) ∧ Nx w w' := by
  go_enter Try.func51, Try.ntmps51
  go_wp2
  go_ret
  exact ⟨rfl, Nx.refl _⟩

set_option maxHeartbeats 8000000 in
set_option maxRecDepth 100000 in
theorem lives4_any (w : World) : Calls Try.prog 46 #[] w fun e w' => e = .returned (.bool true) ∧ Nx w w' := by
  have he2 : ∀ w, (Op.equalIn 10000 24 (.agg #[.int .u64 (lim 2 0 : Int), .int .u64 (lim 2 1 : Int), .int .u64 (lim 2 2 : Int), .int .u64 (lim 2 3 : Int)]) (.agg #[.int .u64 (lim 2 0 : Int), .int .u64 (lim 2 1 : Int), .int .u64 (lim 2 2 : Int), .int .u64 (lim 2 3 : Int)])).run Try.prog w = .ok true w := fun w => by rw [eqU 2 2 (by decide) (by decide) w]; simp
  have HL3 := Lib.hid lim_3
  have HO := Lib.hid of_lim
  generalize ofT 545259519 = tl at *
  go_enter Try.func46, Try.ntmps46
  go_wp2_with fail
  refine (HO.out _).mono ?_
  rintro e w1 ⟨rfl, hb1⟩
  have R1 : Row (w1.alloc (.cells #[.int .u64 (lim tl 0 : Int), .int .u64 (lim tl 1 : Int), .int .u64 (lim tl 2 : Int), .int .u64 (lim tl 3 : Int)] 24)) w1.heap.size #[.int .u64 (lim tl 0 : Int), .int .u64 (lim tl 1 : Int), .int .u64 (lim tl 2 : Int), .int .u64 (lim tl 3 : Int)] 24 := Row.new w1 _ _ _ rfl
  have N1 := Lib.hid (hb1.alloc (.cells #[.int .u64 (lim tl 0 : Int), .int .u64 (lim tl 1 : Int), .int .u64 (lim tl 2 : Int), .int .u64 (lim tl 3 : Int)] 24))
  clear hb1
  go_wp2_with fail
  refine (work_lim _).mono ?_
  rintro e w2 ⟨rfl, hb2⟩
  replace R1 := (R1.nx hb2).alloc (.cells #[.int .u64 (lim 2 0 : Int), .int .u64 (lim 2 1 : Int), .int .u64 (lim 2 2 : Int), .int .u64 (lim 2 3 : Int)] 24)
  have R2 : Row (w2.alloc (.cells #[.int .u64 (lim 2 0 : Int), .int .u64 (lim 2 1 : Int), .int .u64 (lim 2 2 : Int), .int .u64 (lim 2 3 : Int)] 24)) w2.heap.size #[.int .u64 (lim 2 0 : Int), .int .u64 (lim 2 1 : Int), .int .u64 (lim 2 2 : Int), .int .u64 (lim 2 3 : Int)] 24 := Row.new w2 _ _ _ rfl
  replace N1 := Lib.hid ((N1.out.trans hb2).alloc (.cells #[.int .u64 (lim 2 0 : Int), .int .u64 (lim 2 1 : Int), .int .u64 (lim 2 2 : Int), .int .u64 (lim 2 3 : Int)] 24))
  clear hb2
  have HB := Lib.hid of_bad
  generalize ofT 50331649 = tb at *
  go_wp2_with fail
  refine (HB.out _).mono ?_
  rintro e w3 ⟨rfl, hb3⟩
  replace R1 := (R1.nx hb3).alloc (.cells #[.int .u64 (lim tb 0 : Int), .int .u64 (lim tb 1 : Int), .int .u64 (lim tb 2 : Int), .int .u64 (lim tb 3 : Int)] 24)
  replace R2 := (R2.nx hb3).alloc (.cells #[.int .u64 (lim tb 0 : Int), .int .u64 (lim tb 1 : Int), .int .u64 (lim tb 2 : Int), .int .u64 (lim tb 3 : Int)] 24)
  replace N1 := Lib.hid ((N1.out.trans hb3).alloc (.cells #[.int .u64 (lim tb 0 : Int), .int .u64 (lim tb 1 : Int), .int .u64 (lim tb 2 : Int), .int .u64 (lim tb 3 : Int)] 24))
  clear hb3
  go_wp2_with fail
  refine (next_lim _).mono ?_
  rintro e w4 ⟨rfl, hb4⟩
  replace R1 := R1.nx hb4
  replace R2 := R2.nx hb4
  replace N1 := Lib.hid (N1.out.trans hb4)
  clear hb4 HO HB
  go_wp2_with fail
  have c13 : w4.cell? ⟨w1.heap.size, 3, none⟩ = some (.int .u64 9223370937343148032) := by
    have h := R1.four.2.2.2
    rw [HL3.out] at h
    exact h
  have q13 : ∀ d os, (Sort.grow (redrawn w4 d) os).cell? ⟨w1.heap.size, 3, none⟩ = some (.int .u64 9223370937343148032) := fun d os => cell_regrown c13 d os
  have q20 : ∀ d os, (Sort.grow (redrawn w4 d) os).cell? ⟨w2.heap.size, 0, none⟩ = some (.int .u64 (lim 2 0 : Int)) := fun d os => cell_regrown (R2.cell rfl) d os
  have q21 : ∀ d os, (Sort.grow (redrawn w4 d) os).cell? ⟨w2.heap.size, 1, none⟩ = some (.int .u64 (lim 2 1 : Int)) := fun d os => cell_regrown (R2.cell rfl) d os
  have q22 : ∀ d os, (Sort.grow (redrawn w4 d) os).cell? ⟨w2.heap.size, 2, none⟩ = some (.int .u64 (lim 2 2 : Int)) := fun d os => cell_regrown (R2.cell rfl) d os
  have q23 : ∀ d os, (Sort.grow (redrawn w4 d) os).cell? ⟨w2.heap.size, 3, none⟩ = some (.int .u64 (lim 2 3 : Int)) := fun d os => cell_regrown (R2.cell rfl) d os
  clear c13 R1 R2 HL3
  refine wp_region_quiet_below (by kernel_rfl) (by kernel_rfl) ?_
  repeat (first
    | quiet_step ((first
      | (go_at_call 16; with_reducible exact Calls.regrown_of (refOf_2 _))
      | (go_at_call 51; with_reducible exact Calls.regrown_of (subs_16 _)))))
  refine wpQuiet_nil ?_
  intro _ hw'
  obtain ⟨⟨dq, osq⟩, hw''⟩ := hw'
  subst hw''
  go_wp2
  go_ret
  exact ⟨rfl, N1.out.trans (below_regrown w4 dq osq)⟩
end Go.Proofs.Ytggemncdnclhnaa
