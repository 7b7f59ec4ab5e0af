/- moneyerlaw04.TargetOf: for every input the call returns true, and each argument reads afterwards as it read before. No further conditions. -/
import Derived.Test.YtggemncdnclhnaaTar6
import Derived.Test.YtggemncdnclhnaaRefOf
import Derived.Test.YtggemncdnclhnaaRefLess
import Derived.Test.YtggemncdnclhnaaTarPure2
import Derived.Test.YtggemncdnclhnaaHashPure
import Derived.Test.YtggemncdnclhnaaRefOf2
import Derived.LoopTactic
import Derived.Test.YtggemncdnclhnaaTar3
import Derived.Test.YtggemncdnclhnaaRefMul
import Derived.Test.YtggemncdnclhnaaRefOver2
import Derived.Test.YtggemncdnclhnaaRegInv
import Derived.Test.YtggemncdnclhnaaRegLaws
import Derived.Deep.Cut
import Derived.Deep.CutRange
import Derived.Deep.DeepCutAuto
import Derived.Test.YtggemncdnclhnaaFrame
import Derived.Test.YtggemncdnclhnaaArrLaw
namespace Go.Proofs.Ytggemncdnclhnaa
open Go.RowKit
set_option linter.unusedVariables false
set_option linter.unusedSimpArgs false

theorem lim_e : ofE 545259519 = 0 := by decide +kernel
theorem lim_3 : lim (ofT 545259519) 3 = 9223370937343148032 := by decide +kernel
theorem lim_w : wkN 545259519 = 2 := by decide +kernel
theorem lim_n : nxN 545259519 480 = 545259519 := by decide +kernel
theorem bad_e : ofE 50331649 = 5 := by decide +kernel
theorem of_lim (w : World) : Calls Try.prog 40 #[.int .u32 545259519] w fun e w' => e = .returned (.tuple #[.agg #[.int .u64 (lim (ofT 545259519) 0 : Int), .int .u64 (lim (ofT 545259519) 1 : Int), .int .u64 (lim (ofT 545259519) 2 : Int), .int .u64 (lim (ofT 545259519) 3 : Int)], .int .i64 0]) ∧ Nx w w' := by
  have h := tof_any 545259519 w (by omega)
  rw [lim_e] at h
  exact h
theorem work_lim (w : World) : Calls Try.prog 42 #[.int .u32 545259519] w fun e w' => e = .returned (.tuple #[.agg #[.int .u64 (lim 2 0 : Int), .int .u64 (lim 2 1 : Int), .int .u64 (lim 2 2 : Int), .int .u64 (lim 2 3 : Int)], .int .i64 0]) ∧ Nx w w' := by
  have h := twork_any 545259519 w (by omega)
  rw [lim_w, lim_e] at h
  exact h
theorem of_bad (w : World) : Calls Try.prog 40 #[.int .u32 50331649] w fun e w' => e = .returned (.tuple #[.agg #[.int .u64 (lim (ofT 50331649) 0 : Int), .int .u64 (lim (ofT 50331649) 1 : Int), .int .u64 (lim (ofT 50331649) 2 : Int), .int .u64 (lim (ofT 50331649) 3 : Int)], .int .i64 5]) ∧ Nx w w' := by
  have h := tof_any 50331649 w (by omega)
  rw [bad_e] at h
  exact h
theorem next_lim (w : World) : Calls Try.prog 47 #[.int .u32 545259519, .int .u32 480] w fun e w' => e = .returned (.tuple #[.int .u32 545259519, .int .i64 0]) ∧ Nx w w' := by
  have h := tnext_any 545259519 480 w (by omega)
  rw [lim_n, lim_e] at h
  exact h
theorem refOf_2 (w : World) : Calls Try.prog 16 #[.int .u64 2] w fun e w' => e = .returned (.agg #[.int .u64 (lim 2 0 : Int), .int .u64 (lim 2 1 : Int), .int .u64 (lim 2 2 : Int), .int .u64 (lim 2 3 : Int)]) ∧ Nx w w' := refOf_any 2 w (by omega)
theorem subs_16 (w : World) : Calls Try.prog 51 #[.int .u32 16] w fun e w' => e = .returned (.int .u64 2500000000) ∧ Nx w w' := by
  go_enter Try.func51, Try.ntmps51
  go_wp2
  go_ret
  exact ⟨rfl, Nx.refl _⟩

set_option maxHeartbeats 8000000 in
set_option maxRecDepth 100000 in
theorem lives4_any (w : World) : Calls Try.prog 46 #[] w fun e w' => e = .returned (.bool true) ∧ Nx w w' := by
  have he2 : ∀ w, (Op.equalIn 10000 24 (.agg #[.int .u64 (lim 2 0 : Int), .int .u64 (lim 2 1 : Int), .int .u64 (lim 2 2 : Int), .int .u64 (lim 2 3 : Int)]) (.agg #[.int .u64 (lim 2 0 : Int), .int .u64 (lim 2 1 : Int), .int .u64 (lim 2 2 : Int), .int .u64 (lim 2 3 : Int)])).run Try.prog w = .ok true w := fun w => by rw [eqU 2 2 (by decide) (by decide) w]; simp
  have HL3 := Lib.hid lim_3
  have HO := Lib.hid of_lim
  generalize ofT 545259519 = tl at *
  go_enter Try.func46, Try.ntmps46
  go_wp2_with fail
  refine (HO.out _).mono ?_
  rintro e w1 ⟨rfl, hb1⟩
  have R1 : Row (w1.alloc (.cells #[.int .u64 (lim tl 0 : Int), .int .u64 (lim tl 1 : Int), .int .u64 (lim tl 2 : Int), .int .u64 (lim tl 3 : Int)] 24)) w1.heap.size #[.int .u64 (lim tl 0 : Int), .int .u64 (lim tl 1 : Int), .int .u64 (lim tl 2 : Int), .int .u64 (lim tl 3 : Int)] 24 := Row.new w1 _ _ _ rfl
  have N1 := Lib.hid (hb1.alloc (.cells #[.int .u64 (lim tl 0 : Int), .int .u64 (lim tl 1 : Int), .int .u64 (lim tl 2 : Int), .int .u64 (lim tl 3 : Int)] 24))
  clear hb1
  go_wp2_with fail
  refine (work_lim _).mono ?_
  rintro e w2 ⟨rfl, hb2⟩
  replace R1 := (R1.nx hb2).alloc (.cells #[.int .u64 (lim 2 0 : Int), .int .u64 (lim 2 1 : Int), .int .u64 (lim 2 2 : Int), .int .u64 (lim 2 3 : Int)] 24)
  have R2 : Row (w2.alloc (.cells #[.int .u64 (lim 2 0 : Int), .int .u64 (lim 2 1 : Int), .int .u64 (lim 2 2 : Int), .int .u64 (lim 2 3 : Int)] 24)) w2.heap.size #[.int .u64 (lim 2 0 : Int), .int .u64 (lim 2 1 : Int), .int .u64 (lim 2 2 : Int), .int .u64 (lim 2 3 : Int)] 24 := Row.new w2 _ _ _ rfl
  replace N1 := Lib.hid ((N1.out.trans hb2).alloc (.cells #[.int .u64 (lim 2 0 : Int), .int .u64 (lim 2 1 : Int), .int .u64 (lim 2 2 : Int), .int .u64 (lim 2 3 : Int)] 24))
  clear hb2
  have HB := Lib.hid of_bad
  generalize ofT 50331649 = tb at *
  go_wp2_with fail
  refine (HB.out _).mono ?_
  rintro e w3 ⟨rfl, hb3⟩
  replace R1 := (R1.nx hb3).alloc (.cells #[.int .u64 (lim tb 0 : Int), .int .u64 (lim tb 1 : Int), .int .u64 (lim tb 2 : Int), .int .u64 (lim tb 3 : Int)] 24)
  replace R2 := (R2.nx hb3).alloc (.cells #[.int .u64 (lim tb 0 : Int), .int .u64 (lim tb 1 : Int), .int .u64 (lim tb 2 : Int), .int .u64 (lim tb 3 : Int)] 24)
  replace N1 := Lib.hid ((N1.out.trans hb3).alloc (.cells #[.int .u64 (lim tb 0 : Int), .int .u64 (lim tb 1 : Int), .int .u64 (lim tb 2 : Int), .int .u64 (lim tb 3 : Int)] 24))
  clear hb3
  go_wp2_with fail
  refine (next_lim _).mono ?_
  rintro e w4 ⟨rfl, hb4⟩
  replace R1 := R1.nx hb4
  replace R2 := R2.nx hb4
  replace N1 := Lib.hid (N1.out.trans hb4)
  clear hb4 HO HB
  go_wp2_with fail
  have c13 : w4.cell? ⟨w1.heap.size, 3, none⟩ = some (.int .u64 9223370937343148032) := by
    have h := R1.four.2.2.2
    rw [HL3.out] at h
    exact h
  have q13 : ∀ d os, (Sort.grow (redrawn w4 d) os).cell? ⟨w1.heap.size, 3, none⟩ = some (.int .u64 9223370937343148032) := fun d os => cell_regrown c13 d os
  have q20 : ∀ d os, (Sort.grow (redrawn w4 d) os).cell? ⟨w2.heap.size, 0, none⟩ = some (.int .u64 (lim 2 0 : Int)) := fun d os => cell_regrown (R2.cell rfl) d os
  have q21 : ∀ d os, (Sort.grow (redrawn w4 d) os).cell? ⟨w2.heap.size, 1, none⟩ = some (.int .u64 (lim 2 1 : Int)) := fun d os => cell_regrown (R2.cell rfl) d os
  have q22 : ∀ d os, (Sort.grow (redrawn w4 d) os).cell? ⟨w2.heap.size, 2, none⟩ = some (.int .u64 (lim 2 2 : Int)) := fun d os => cell_regrown (R2.cell rfl) d os
  have q23 : ∀ d os, (Sort.grow (redrawn w4 d) os).cell? ⟨w2.heap.size, 3, none⟩ = some (.int .u64 (lim 2 3 : Int)) := fun d os => cell_regrown (R2.cell rfl) d os
  clear c13 R1 R2 HL3
  refine wp_region_quiet_below (by kernel_rfl) (by kernel_rfl) ?_
  repeat (first
    | quiet_step ((first
      | (go_at_call 16; with_reducible exact Calls.regrown_of (refOf_2 _))
      | (go_at_call 51; with_reducible exact Calls.regrown_of (subs_16 _)))))
  refine wpQuiet_nil ?_
  intro _ hw'
  obtain ⟨⟨dq, osq⟩, hw''⟩ := hw'
  subst hw''
  go_wp2
  go_ret
  exact ⟨rfl, N1.out.trans (below_regrown w4 dq osq)⟩
end Go.Proofs.Ytggemncdnclhnaa

namespace Go.Proofs.Ytggemncdnclhnaa
open Go.RowKit
set_option linter.unusedVariables false
set_option linter.unusedSimpArgs false

theorem ofT_pos (b : Nat) (h : ofE b = 0) : ofT b ≠ 0 := by
  unfold ofE at h
  unfold ofT
  by_cases hc : tN b = 0 ∨ bN (tN b) ≠ b
  · rw [if_pos hc] at h; cases h
  · rw [if_neg hc]
    intro e
    exact hc (.inl e)
/-- The work, as the quotient that it is. -/
theorem workN_eq (t : Nat) (h0 : t ≠ 0) (ht : t < top) : workN t = top / (t + 1) := by
  have htop : 0 < top := by decide
  unfold workN
  by_cases hl : t + 1 < top
  · have e1 : addN t 1 = t + 1 := Nat.mod_eq_of_lt hl
    have e2 : subN 0 (t + 1) = top - (t + 1) := by unfold subN; rw [if_neg (by omega), Nat.add_zero]
    have e3 : overQ (top - (t + 1)) (t + 1) = (top - (t + 1)) / (t + 1) := if_neg (by omega)
    have e4 : top / (t + 1) = (top - (t + 1)) / (t + 1) + 1 := by rw [Nat.div_eq, if_pos ⟨by omega, by omega⟩]
    have e5 : top / (t + 1) < top := Nat.div_lt_self htop (by omega)
    rw [e1, e2, e3, ← Nat.mod_eq_of_lt e5, e4]
    rfl
  · have e : t + 1 = top := by omega
    have e1 : addN t 1 = 0 := by unfold addN; rw [e]; exact Nat.mod_self _
    rw [e1, e, Nat.div_self htop]
    rfl
theorem workN_lt (t : Nat) : workN t < top := addN_lt _ _
theorem workN_mono (x y : Nat) (hx : x ≠ 0) (hx2 : x < top) (hy2 : y < top) (h : x < y) : subB (workN x) (workN y) = false := by
  rw [workN_eq x hx hx2, workN_eq y (by omega) hy2]
  unfold subB
  have := Nat.div_le_div_left (a := top) (show x + 1 ≤ y + 1 by omega) (by omega)
  simp only [decide_eq_false_iff_not]
  omega
theorem less_of (a b : Nat) (v : Bool) (w : World) (ha : a < top) (hb : b < top) (h : subB a b = v) :
    Calls Try.prog 22 #[.agg #[.int .u64 (lim a 0 : Int), .int .u64 (lim a 1 : Int), .int .u64 (lim a 2 : Int), .int .u64 (lim a 3 : Int)], .agg #[.int .u64 (lim b 0 : Int), .int .u64 (lim b 1 : Int), .int .u64 (lim b 2 : Int), .int .u64 (lim b 3 : Int)]] w fun e w' => e = .returned (.bool v) ∧ Nx w w' := by
  have := refLess_any a b w ha hb
  rw [h] at this
  exact this

set_option maxHeartbeats 4000000 in
set_option maxRecDepth 100000 in
theorem targetWork_no {w : World} (a : Nat) (ha : (a : Int) ≤ 4294967295) (b : Nat) (hb : (b : Int) ≤ 4294967295) (ea eb : Int) (hea : ofE a = ea) (heb : ofE b = eb) (h : (ea = 5 ∧ eb = 5) ∨ (ea = 5 ∧ eb = 0) ∨ (ea = 0 ∧ eb = 5)) :
    Calls Try.prog 13 #[.int .u32 (a : Int), .int .u32 (b : Int)] w fun e w' => e = .returned (.bool true) ∧ Nx w w' := by
  have HA := Lib.hid (fun w => tof_any a w ha)
  have HB := Lib.hid (fun w => tof_any b w hb)
  rw [hea] at HA
  rw [heb] at HB
  clear hea heb
  generalize ofT a = x at *
  generalize ofT b = y at *
  rcases h with ⟨rfl, rfl⟩ | ⟨rfl, rfl⟩ | ⟨rfl, rfl⟩
  all_goals
    go_enter Try.func13, Try.ntmps13
    go_wp2_with fail
    refine (HA.out _).mono ?_
    rintro e w1 ⟨rfl, hb1⟩
    have N1 := Lib.hid (hb1.alloc (.cells #[.int .u64 (lim x 0 : Int), .int .u64 (lim x 1 : Int), .int .u64 (lim x 2 : Int), .int .u64 (lim x 3 : Int)] 24))
    clear hb1
    go_wp2_with fail
    refine (HB.out _).mono ?_
    rintro e w2 ⟨rfl, hb2⟩
    replace N1 := Lib.hid ((N1.out.trans hb2).alloc (.cells #[.int .u64 (lim y 0 : Int), .int .u64 (lim y 1 : Int), .int .u64 (lim y 2 : Int), .int .u64 (lim y 3 : Int)] 24))
    clear hb2
    go_wp2_with fail
    refine (lives4_any _).mono ?_
    rintro e w9 ⟨rfl, hb9⟩
    go_wp2
    go_ret
    exact ⟨rfl, N1.out.trans hb9⟩

set_option maxHeartbeats 16000000 in
set_option maxRecDepth 100000 in
theorem targetWork_yes {w : World} (a : Nat) (ha : (a : Int) ≤ 4294967295) (b : Nat) (hb : (b : Int) ≤ 4294967295) (hea : ofE a = 0) (heb : ofE b = 0) :
    Calls Try.prog 13 #[.int .u32 (a : Int), .int .u32 (b : Int)] w fun e w' => e = .returned (.bool true) ∧ Nx w w' := by
  have HA := Lib.hid (fun w => tof_any a w ha)
  have HB := Lib.hid (fun w => tof_any b w hb)
  have GA := Lib.hid (fun w => twork_yes a w ha hea)
  have GB := Lib.hid (fun w => twork_yes b w hb heb)
  rw [hea] at HA
  rw [heb] at HB
  have hx0 := ofT_pos a hea
  have hy0 := ofT_pos b heb
  have hx := ofT_lt a
  have hy := ofT_lt b
  clear hea heb
  generalize ofT a = x at *
  generalize ofT b = y at *
  have HXY := Lib.hid (fun h => workN_mono x y hx0 hx hy h)
  have HYX := Lib.hid (fun h => workN_mono y x hy0 hy hx h)
  have HVL := Lib.hid (workN_lt x)
  have HUL := Lib.hid (workN_lt y)
  have HEQ : Hid (x = y → workN x = workN y) := Lib.hid (fun h => by rw [h])
  have HXL := Lib.hid hx
  have HYL := Lib.hid hy
  clear hx0 hy0 hx hy
  generalize workN x = v at *
  generalize workN y = u at *
  go_enter Try.func13, Try.ntmps13
  go_wp2_with fail
  refine (HA.out _).mono ?_
  rintro e w1 ⟨rfl, hb1⟩
  have R5 : Row (w1.alloc (.cells #[.int .u64 (lim x 0 : Int), .int .u64 (lim x 1 : Int), .int .u64 (lim x 2 : Int), .int .u64 (lim x 3 : Int)] 24)) w1.heap.size #[.int .u64 (lim x 0 : Int), .int .u64 (lim x 1 : Int), .int .u64 (lim x 2 : Int), .int .u64 (lim x 3 : Int)] 24 := Row.new w1 _ _ _ rfl
  have N1 := Lib.hid (hb1.alloc (.cells #[.int .u64 (lim x 0 : Int), .int .u64 (lim x 1 : Int), .int .u64 (lim x 2 : Int), .int .u64 (lim x 3 : Int)] 24))
  clear hb1
  go_wp2_with fail
  refine (HB.out _).mono ?_
  rintro e w2 ⟨rfl, hb2⟩
  replace R5 := (R5.nx hb2).alloc (.cells #[.int .u64 (lim y 0 : Int), .int .u64 (lim y 1 : Int), .int .u64 (lim y 2 : Int), .int .u64 (lim y 3 : Int)] 24)
  have R7 : Row (w2.alloc (.cells #[.int .u64 (lim y 0 : Int), .int .u64 (lim y 1 : Int), .int .u64 (lim y 2 : Int), .int .u64 (lim y 3 : Int)] 24)) w2.heap.size #[.int .u64 (lim y 0 : Int), .int .u64 (lim y 1 : Int), .int .u64 (lim y 2 : Int), .int .u64 (lim y 3 : Int)] 24 := Row.new w2 _ _ _ rfl
  replace N1 := Lib.hid ((N1.out.trans hb2).alloc (.cells #[.int .u64 (lim y 0 : Int), .int .u64 (lim y 1 : Int), .int .u64 (lim y 2 : Int), .int .u64 (lim y 3 : Int)] 24))
  clear hb2
  go_wp2_with fail
  refine (GA.out _).mono ?_
  rintro e w3 ⟨rfl, hb3⟩
  replace R5 := (R5.nx hb3).alloc (.cells #[.int .u64 (lim v 0 : Int), .int .u64 (lim v 1 : Int), .int .u64 (lim v 2 : Int), .int .u64 (lim v 3 : Int)] 24)
  replace R7 := (R7.nx hb3).alloc (.cells #[.int .u64 (lim v 0 : Int), .int .u64 (lim v 1 : Int), .int .u64 (lim v 2 : Int), .int .u64 (lim v 3 : Int)] 24)
  have R9 : Row (w3.alloc (.cells #[.int .u64 (lim v 0 : Int), .int .u64 (lim v 1 : Int), .int .u64 (lim v 2 : Int), .int .u64 (lim v 3 : Int)] 24)) w3.heap.size #[.int .u64 (lim v 0 : Int), .int .u64 (lim v 1 : Int), .int .u64 (lim v 2 : Int), .int .u64 (lim v 3 : Int)] 24 := Row.new w3 _ _ _ rfl
  replace N1 := Lib.hid ((N1.out.trans hb3).alloc (.cells #[.int .u64 (lim v 0 : Int), .int .u64 (lim v 1 : Int), .int .u64 (lim v 2 : Int), .int .u64 (lim v 3 : Int)] 24))
  clear hb3
  go_wp2_with fail
  refine (GB.out _).mono ?_
  rintro e w4 ⟨rfl, hb4⟩
  replace R5 := (R5.nx hb4).alloc (.cells #[.int .u64 (lim u 0 : Int), .int .u64 (lim u 1 : Int), .int .u64 (lim u 2 : Int), .int .u64 (lim u 3 : Int)] 24)
  replace R7 := (R7.nx hb4).alloc (.cells #[.int .u64 (lim u 0 : Int), .int .u64 (lim u 1 : Int), .int .u64 (lim u 2 : Int), .int .u64 (lim u 3 : Int)] 24)
  replace R9 := (R9.nx hb4).alloc (.cells #[.int .u64 (lim u 0 : Int), .int .u64 (lim u 1 : Int), .int .u64 (lim u 2 : Int), .int .u64 (lim u 3 : Int)] 24)
  have R11 : Row (w4.alloc (.cells #[.int .u64 (lim u 0 : Int), .int .u64 (lim u 1 : Int), .int .u64 (lim u 2 : Int), .int .u64 (lim u 3 : Int)] 24)) w4.heap.size #[.int .u64 (lim u 0 : Int), .int .u64 (lim u 1 : Int), .int .u64 (lim u 2 : Int), .int .u64 (lim u 3 : Int)] 24 := Row.new w4 _ _ _ rfl
  replace N1 := Lib.hid ((N1.out.trans hb4).alloc (.cells #[.int .u64 (lim u 0 : Int), .int .u64 (lim u 1 : Int), .int .u64 (lim u 2 : Int), .int .u64 (lim u 3 : Int)] 24))
  clear hb4 HA HB GA GB
  obtain ⟨x0, x1, x2, x3⟩ := R5.four
  obtain ⟨y0, y1, y2, y3⟩ := R7.four
  rcases Nat.lt_trichotomy x y with hl | hl | hl
  · have hs1 := Lib.hid (show subB x y = true by unfold subB; simp [hl])
    have hs2 := Lib.hid (HXY.out hl)
    replace hl := Lib.hid hl
    go_wp2_with fail
    refine (less_of x y true _ HXL.out HYL.out hs1.out).mono ?_
    rintro e w5 ⟨rfl, hb5⟩
    clear x0 x1 x2 x3 y0 y1 y2 y3
    replace R5 := R5.nx hb5
    replace R7 := R7.nx hb5
    replace R9 := R9.nx hb5
    replace R11 := R11.nx hb5
    replace N1 := Lib.hid (N1.out.trans hb5)
    clear hb5
    obtain ⟨v0, v1, v2, v3⟩ := R9.four
    obtain ⟨u0, u1, u2, u3⟩ := R11.four
    go_wp2_with fail
    refine (less_of v u false _ HVL.out HUL.out hs2.out).mono ?_
    rintro e w6 ⟨rfl, hb6⟩
    clear v0 v1 v2 v3 u0 u1 u2 u3
    replace R5 := R5.nx hb6
    replace R7 := R7.nx hb6
    replace R9 := R9.nx hb6
    replace R11 := R11.nx hb6
    replace N1 := Lib.hid (N1.out.trans hb6)
    clear hb6
    go_wp2_with fail
    refine (lives4_any _).mono ?_
    rintro e w9 ⟨rfl, hb9⟩
    go_wp2
    go_ret
    exact ⟨rfl, N1.out.trans hb9⟩
  · subst hl
    have huv := HEQ.out rfl
    subst huv
    have hs1 := Lib.hid (show subB x x = false by unfold subB; simp)
    have he1 : ∀ w, (Op.equalIn 10000 24 (.agg #[.int .u64 (lim x 0 : Int), .int .u64 (lim x 1 : Int), .int .u64 (lim x 2 : Int), .int .u64 (lim x 3 : Int)]) (.agg #[.int .u64 (lim x 0 : Int), .int .u64 (lim x 1 : Int), .int .u64 (lim x 2 : Int), .int .u64 (lim x 3 : Int)])).run Try.prog w = .ok true w := fun w => by rw [eqU x x HXL.out HXL.out w]; simp
    have he2 : ∀ w, (Op.equalIn 10000 24 (.agg #[.int .u64 (lim v 0 : Int), .int .u64 (lim v 1 : Int), .int .u64 (lim v 2 : Int), .int .u64 (lim v 3 : Int)]) (.agg #[.int .u64 (lim v 0 : Int), .int .u64 (lim v 1 : Int), .int .u64 (lim v 2 : Int), .int .u64 (lim v 3 : Int)])).run Try.prog w = .ok true w := fun w => by rw [eqU v v HVL.out HVL.out w]; simp
    go_wp2_with fail
    refine (less_of x x false _ HXL.out HXL.out hs1.out).mono ?_
    rintro e w5 ⟨rfl, hb5⟩
    clear x0 x1 x2 x3 y0 y1 y2 y3
    replace R5 := R5.nx hb5
    replace R7 := R7.nx hb5
    replace R9 := R9.nx hb5
    replace R11 := R11.nx hb5
    replace N1 := Lib.hid (N1.out.trans hb5)
    clear hb5
    obtain ⟨x0, x1, x2, x3⟩ := R5.four
    obtain ⟨y0, y1, y2, y3⟩ := R7.four
    go_wp2_with fail
    refine (less_of x x false _ HXL.out HXL.out hs1.out).mono ?_
    rintro e w6 ⟨rfl, hb6⟩
    clear x0 x1 x2 x3 y0 y1 y2 y3
    replace R5 := R5.nx hb6
    replace R7 := R7.nx hb6
    replace R9 := R9.nx hb6
    replace R11 := R11.nx hb6
    replace N1 := Lib.hid (N1.out.trans hb6)
    clear hb6
    obtain ⟨x0, x1, x2, x3⟩ := R5.four
    obtain ⟨y0, y1, y2, y3⟩ := R7.four
    obtain ⟨v0, v1, v2, v3⟩ := R9.four
    obtain ⟨u0, u1, u2, u3⟩ := R11.four
    go_wp2_with fail
    refine (lives4_any _).mono ?_
    rintro e w9 ⟨rfl, hb9⟩
    go_wp2
    go_ret
    exact ⟨rfl, N1.out.trans hb9⟩
  · have hs1 := Lib.hid (show subB x y = false by unfold subB; simp; omega)
    have hs2 := Lib.hid (show subB y x = true by unfold subB; simp [hl])
    have hs3 := Lib.hid (HYX.out hl)
    replace hl := Lib.hid hl
    go_wp2_with fail
    refine (less_of x y false _ HXL.out HYL.out hs1.out).mono ?_
    rintro e w5 ⟨rfl, hb5⟩
    clear x0 x1 x2 x3 y0 y1 y2 y3
    replace R5 := R5.nx hb5
    replace R7 := R7.nx hb5
    replace R9 := R9.nx hb5
    replace R11 := R11.nx hb5
    replace N1 := Lib.hid (N1.out.trans hb5)
    clear hb5
    obtain ⟨x0, x1, x2, x3⟩ := R5.four
    obtain ⟨y0, y1, y2, y3⟩ := R7.four
    go_wp2_with fail
    refine (less_of y x true _ HYL.out HXL.out hs2.out).mono ?_
    rintro e w6 ⟨rfl, hb6⟩
    clear x0 x1 x2 x3 y0 y1 y2 y3
    replace R5 := R5.nx hb6
    replace R7 := R7.nx hb6
    replace R9 := R9.nx hb6
    replace R11 := R11.nx hb6
    replace N1 := Lib.hid (N1.out.trans hb6)
    clear hb6
    obtain ⟨v0, v1, v2, v3⟩ := R9.four
    obtain ⟨u0, u1, u2, u3⟩ := R11.four
    go_wp2_with fail
    refine (less_of u v false _ HUL.out HVL.out hs3.out).mono ?_
    rintro e w7 ⟨rfl, hb7⟩
    clear v0 v1 v2 v3 u0 u1 u2 u3
    replace R5 := R5.nx hb7
    replace R7 := R7.nx hb7
    replace R9 := R9.nx hb7
    replace R11 := R11.nx hb7
    replace N1 := Lib.hid (N1.out.trans hb7)
    clear hb7
    go_wp2_with fail
    refine (lives4_any _).mono ?_
    rintro e w9 ⟨rfl, hb9⟩
    go_wp2
    go_ret
    exact ⟨rfl, N1.out.trans hb9⟩

theorem ofE_or (b : Nat) : ofE b = 0 ∨ ofE b = 5 := by
  unfold ofE
  split
  · exact .inr rfl
  · exact .inl rfl
theorem targetWork_law {w : World} (a : Nat) (ha : (a : Int) ≤ 4294967295) (b : Nat) (hb : (b : Int) ≤ 4294967295) :
    Calls Try.prog 13 #[.int .u32 (a : Int), .int .u32 (b : Int)] w fun e w' => e = .returned (.bool true) ∧ Nx w w' := by
  rcases ofE_or a with h1 | h1 <;> rcases ofE_or b with h2 | h2
  · exact targetWork_yes a ha b hb h1 h2
  · exact targetWork_no a ha b hb 0 5 h1 h2 (.inr (.inr ⟨rfl, rfl⟩))
  · exact targetWork_no a ha b hb 5 0 h1 h2 (.inr (.inl ⟨rfl, rfl⟩))
  · exact targetWork_no a ha b hb 5 5 h1 h2 (.inl ⟨rfl, rfl⟩)
end Go.Proofs.Ytggemncdnclhnaa

namespace Go.Proofs.Ytggemncdnclhnaa
open Go.RowKit
set_option linter.unusedVariables false
set_option linter.unusedSimpArgs false

/-- How many bytes, counted from below: k are looked at. -/
def szK (t : Nat) : Nat → Nat
  | 0 => 0
  | k + 1 => if t / 256 ^ k % 256 = 0 then szK t k else k + 1
theorem szK_spec (t k : Nat) : t % 256 ^ k < 256 ^ szK t k ∧ szK t k ≤ k ∧ (szK t k = 0 ∨ 256 ^ (szK t k - 1) ≤ t % 256 ^ k) := by
  induction k with
  | zero => simp [szK, Nat.mod_one]
  | succ k ih =>
    have hp : 0 < 256 ^ k := Nat.pow_pos (by decide)
    have e : t % 256 ^ (k + 1) = t % 256 ^ k + 256 ^ k * (t / 256 ^ k % 256) := by rw [Nat.pow_succ, Nat.mod_mul]
    have h1 := Nat.mod_lt t (show 0 < 256 ^ (k + 1) from Nat.pow_pos (by decide))
    simp only [szK]
    by_cases h : t / 256 ^ k % 256 = 0
    · rw [if_pos h, e, h, Nat.mul_zero, Nat.add_zero]
      exact ⟨ih.1, by omega, ih.2.2⟩
    · rw [if_neg h]
      refine ⟨h1, Nat.le_refl _, .inr ?_⟩
      rw [Nat.add_sub_cancel, e]
      have : 256 ^ k * 1 ≤ 256 ^ k * (t / 256 ^ k % 256) := Nat.mul_le_mul_left _ (by omega)
      omega
theorem pow256 (k : Nat) : (256 : Nat) ^ k = 2 ^ (8 * k) := by rw [Nat.pow_mul]
theorem top256 : top = 256 ^ 32 := by decide +kernel
theorem szK_all (t : Nat) (h : t < top) : szK t 32 = sizeN t := by
  obtain ⟨h1, h2, h3⟩ := szK_spec t 32
  rw [Nat.mod_eq_of_lt (by rw [← top256]; exact h)] at h1 h3
  by_cases h0 : szK t 32 = 0
  · rw [h0] at h1
    obtain rfl : t = 0 := by simpa using h1
    rw [h0]
    rfl
  · rw [pow256] at h1
    have h3 := h3.resolve_left h0
    rw [pow256] at h3
    exact (sizeN_of (by omega) h3 h1).symm
/-- The k highest bytes. -/
def tpK (t n k : Nat) : Nat := if k ≤ n then t / 256 ^ (n - k) else t * 256 ^ (k - n)
theorem tpK_zero (t n : Nat) (h : t < 256 ^ n) : tpK t n 0 = 0 := by
  unfold tpK
  rw [if_pos (Nat.zero_le _)]
  exact Nat.div_eq_of_lt h
theorem tpK_in (t n k : Nat) (h : k + 1 ≤ n) : tpK t n (k + 1) = 256 * tpK t n k + t / 256 ^ (n - (k + 1)) % 256 := by
  unfold tpK
  rw [if_pos h, if_pos (by omega)]
  have e : n - k = n - (k + 1) + 1 := by omega
  rw [e, Nat.pow_succ, ← Nat.div_div_eq_div_mul]
  generalize t / 256 ^ (n - (k + 1)) = y
  omega
theorem tpK_out (t n k : Nat) (h : n < k + 1) : tpK t n (k + 1) = 256 * tpK t n k := by
  unfold tpK
  rw [if_neg (by omega)]
  by_cases hk : k ≤ n
  · have : k = n := by omega
    subst this
    rw [if_pos (Nat.le_refl _), show k + 1 - k = 1 by omega, Nat.sub_self]
    simp [Nat.mul_comm]
  · rw [if_neg hk, show k + 1 - n = (k - n) + 1 by omega, Nat.pow_succ]
    rw [← Nat.mul_assoc, Nat.mul_comm]
theorem tpK_lt (t n k : Nat) (h : t < 256 ^ n) : tpK t n k < 256 ^ k := by
  unfold tpK
  split
  · rename_i hk
    rw [Nat.div_lt_iff_lt_mul (Nat.pow_pos (by decide)), ← Nat.pow_add, show k + (n - k) = n by omega]
    exact h
  · rename_i hk
    have := Nat.mul_lt_mul_of_pos_right h (show 0 < 256 ^ (k - n) from Nat.pow_pos (by decide))
    rw [← Nat.pow_add, show n + (k - n) = k by omega] at this
    exact this
theorem tpK_three (t n : Nat) (h : t < 256 ^ n) (ht : t < top) : tpK t n 3 = shN t (3 - (n : Int)) := by
  unfold tpK
  by_cases hn : 3 ≤ n
  · rw [if_pos hn, show (3 : Int) - (n : Int) = -((n - 3 : Nat) : Int) by omega, shN_down _ _ ht, pow256]
  · have hlt := tpK_lt t n 3 h
    unfold tpK at hlt
    rw [if_neg hn] at hlt ⊢
    rw [show (3 : Int) - (n : Int) = ((3 - n : Nat) : Int) by omega, shN_up, ← pow256]
    exact (Nat.mod_eq_of_lt (Nat.lt_of_lt_of_le hlt (by decide))).symm
theorem size256 (t : Nat) : t < 256 ^ sizeN t := by
  rcases Nat.eq_zero_or_pos t with rfl | h
  · exact Nat.pow_pos (by decide)
  · rw [pow256]; exact (sizeN_low (by omega)).2.2
theorem bN_top (t : Nat) (ht : t < top) : bN t = if 8388607 < tpK t (sizeN t) 3 then (sizeN t + 1) * 16777216 + tpK t (sizeN t) 3 / 256 else sizeN t * 16777216 + tpK t (sizeN t) 3 := by
  rw [bN_is t ht, tpK_three t _ (size256 t) ht]
/-- What bits of a target can be. -/
theorem bN_form (t : Nat) (ht : t < top) : bN t / 8388608 % 2 = 0 ∧ bN t / 16777216 ≤ 33 ∧ (bN t / 16777216 = 33 → bN t % 8388608 < 65536) := by
  have hs := sizeN_le t ht
  have hm := tpK_lt t (sizeN t) 3 (size256 t)
  rw [bN_top t ht]
  have e : (256 : Nat) ^ 3 = 16777216 := by decide
  rw [e] at hm
  generalize tpK t (sizeN t) 3 = m at *
  generalize sizeN t = n at *
  split <;> omega

/-- The bytes of the target, k of three laid. -/
def hbK (b : Nat) : Nat → List UInt8
  | 0 => List.replicate 32 0
  | k + 1 => if 3 ≤ b / 16777216 + k ∧ b / 16777216 + k < 35 then (hbK b k).set (b / 16777216 + k - 3) (UInt8.ofNat (b % 8388608 / 256 ^ k)) else hbK b k
theorem hbK_length (b k : Nat) : (hbK b k).length = 32 := by
  induction k with
  | zero => simp [hbK]
  | succ k ih => simp only [hbK]; split <;> simp [ih]
theorem hbK_high (b k i : Nat) (h : b / 16777216 + k ≤ i + 3) (hi : i < (hbK b k).length) : (hbK b k)[i] = 0 := by
  induction k with
  | zero => exact List.getElem_replicate _
  | succ k ih =>
    simp only [hbK]
    split
    · rename_i hc
      rw [List.getElem_set_ne (by omega)]
      exact ih (by omega) _
    · exact ih (by omega) _
theorem num_set (l : List UInt8) (i : Nat) (x : UInt8) (h : i < l.length) : num (l.set i x) + (l[i]).toNat * 256 ^ i = num l + x.toNat * 256 ^ i := by
  induction l generalizing i with
  | nil => simp at h
  | cons y l ih =>
    cases i with
    | zero => simp [num]; omega
    | succ i =>
      have h := ih i (by simpa using h)
      simp only [List.set_cons_succ, num, List.getElem_cons_succ, Nat.pow_succ]
      have e1 : (l[i]'(by simpa using ‹i + 1 < (y :: l).length›)).toNat * (256 ^ i * 256) = 256 * ((l[i]'(by simpa using ‹i + 1 < (y :: l).length›)).toNat * 256 ^ i) := by rw [← Nat.mul_assoc, Nat.mul_comm]
      have e2 : x.toNat * (256 ^ i * 256) = 256 * (x.toNat * 256 ^ i) := by rw [← Nat.mul_assoc, Nat.mul_comm]
      rw [e1, e2]
      omega
theorem num_hbK (b k : Nat) : num (hbK b (k + 1)) = num (hbK b k) + if 3 ≤ b / 16777216 + k ∧ b / 16777216 + k < 35 then b % 8388608 / 256 ^ k % 256 * 256 ^ (b / 16777216 + k - 3) else 0 := by
  simp only [hbK]
  split
  · rename_i hc
    have hl := hbK_length b k
    have hi : b / 16777216 + k - 3 < (hbK b k).length := by omega
    have h := num_set (hbK b k) (b / 16777216 + k - 3) (UInt8.ofNat (b % 8388608 / 256 ^ k)) hi
    rw [hbK_high b k _ (by omega) hi, UInt8.toNat_ofNat'] at h
    simp at h
    exact h
  · rfl
theorem num_rep0 (n : Nat) : num (List.replicate n 0) = 0 := by
  induction n with
  | zero => rfl
  | succ n ih => simp [List.replicate_succ, num, ih]
/-- A byte that would lie above the number. -/
def outB (b k : Nat) : Prop := 35 ≤ b / 16777216 + k ∧ b % 8388608 / 256 ^ k % 256 ≠ 0
instance (b k : Nat) : Decidable (outB b k) := by unfold outB; exact inferInstance
theorem of_no (b : Nat) (h : bN (tN b) ≠ b) : ofE b = 5 ∧ ofT b = 0 := by
  unfold ofE ofT
  rw [if_pos (.inr h), if_pos (.inr h)]
  exact ⟨rfl, rfl⟩
theorem outB_no (b k : Nat) (hk : k < 3) (h : outB b k) : ofE b = 5 ∧ ofT b = 0 := by
  refine of_no b fun e => ?_
  obtain ⟨f1, f2, f3⟩ := bN_form (tN b) (tN_lt b)
  rw [e] at f1 f2 f3
  obtain ⟨h1, h2⟩ := h
  have h3 : b / 16777216 = 33 := by omega
  have h4 := f3 h3
  have hk2 : k = 2 := by omega
  subst hk2
  apply h2
  have : (256 : Nat) ^ 2 = 65536 := by decide
  rw [this]
  omega
theorem sign_no (b : Nat) (h : b / 8388608 % 2 = 1) : ofE b = 5 ∧ ofT b = 0 := by
  refine of_no b fun e => ?_
  obtain ⟨f1, f2, f3⟩ := bN_form (tN b) (tN_lt b)
  rw [e] at f1
  omega
theorem hbK_num (b : Nat) (h : ∀ k, k < 3 → ¬ outB b k) : num (hbK b 3) = tN b := by
  have hn : num (hbK b 3) < top := num_top _ (hbK_length b 3)
  have n0 : num (hbK b 0) = 0 := num_rep0 32
  have n1 := num_hbK b 0
  have n2 := num_hbK b 1
  have n3 := num_hbK b 2
  have o0 := h 0 (by decide)
  have o1 := h 1 (by decide)
  have o2 := h 2 (by decide)
  unfold outB at o0 o1 o2
  have hm : b % 8388608 < 8388608 := Nat.mod_lt _ (by decide)
  unfold tN
  generalize b % 8388608 = m at *
  have p1 : (256 : Nat) ^ 0 = 1 := by decide
  have p2 : (256 : Nat) ^ 1 = 256 := by decide
  have p3 : (256 : Nat) ^ 2 = 65536 := by decide
  rw [p1] at n1 o0
  rw [p2] at n2 o1
  rw [p3] at n3 o2
  rw [n3, n2, n1, n0] at hn ⊢
  clear n0 n1 n2 n3
  generalize b / 16777216 = e at *
  have hml : m < top := Nat.lt_of_lt_of_le hm (by decide)
  by_cases he : e < 3
  · have hc : e = 0 ∨ e = 1 ∨ e = 2 := by omega
    rcases hc with rfl | rfl | rfl
    · rw [show (((0 : Nat) : Int) - 3) = -((3 : Nat) : Int) by omega, shN_down _ _ hml]
      simp
      omega
    · rw [show (((1 : Nat) : Int) - 3) = -((2 : Nat) : Int) by omega, shN_down _ _ hml]
      simp
      omega
    · rw [show (((2 : Nat) : Int) - 3) = -((1 : Nat) : Int) by omega, shN_down _ _ hml]
      simp
      omega
  · obtain ⟨j, rfl⟩ : ∃ j, e = j + 3 := ⟨e - 3, by omega⟩
    have q0 : (if 3 ≤ j + 3 + 0 ∧ j + 3 + 0 < 35 then m / 1 % 256 * 256 ^ (j + 3 + 0 - 3) else 0) = m % 256 * 256 ^ j := by
      by_cases hc : j + 3 + 0 < 35
      · rw [if_pos ⟨by omega, hc⟩, Nat.div_one, show j + 3 + 0 - 3 = j by omega]
      · rw [if_neg (by omega), show m % 256 = 0 by omega, Nat.zero_mul]
    have q1 : (if 3 ≤ j + 3 + 1 ∧ j + 3 + 1 < 35 then m / 256 % 256 * 256 ^ (j + 3 + 1 - 3) else 0) = m / 256 % 256 * 256 * 256 ^ j := by
      by_cases hc : j + 3 + 1 < 35
      · rw [if_pos ⟨by omega, hc⟩, show j + 3 + 1 - 3 = j + 1 by omega, Nat.pow_succ, Nat.mul_assoc, Nat.mul_comm 256]
      · rw [if_neg (by omega), show m / 256 % 256 = 0 by omega]; simp
    have q2 : (if 3 ≤ j + 3 + 2 ∧ j + 3 + 2 < 35 then m / 65536 % 256 * 256 ^ (j + 3 + 2 - 3) else 0) = m / 65536 % 256 * 65536 * 256 ^ j := by
      by_cases hc : j + 3 + 2 < 35
      · rw [if_pos ⟨by omega, hc⟩, show j + 3 + 2 - 3 = j + 2 by omega, Nat.pow_add, Nat.mul_assoc, Nat.mul_comm (65536 : Nat)]
      · rw [if_neg (by omega), show m / 65536 % 256 = 0 by omega]; simp
    rw [q0, q1, q2, Nat.zero_add, ← Nat.add_mul, ← Nat.add_mul, show m % 256 + m / 256 % 256 * 256 + m / 65536 % 256 * 65536 = m by omega] at hn ⊢
    rw [show (((j + 3 : Nat) : Int) - 3) = (j : Int) by omega, shN_up, ← pow256]
    exact (Nat.mod_eq_of_lt hn).symm
end Go.Proofs.Ytggemncdnclhnaa

namespace Go.Proofs.Ytggemncdnclhnaa
open Go.RowKit
set_option linter.unusedVariables false
set_option linter.unusedSimpArgs false

def z32 : List UInt8 := List.replicate 32 0
theorem z32_length : z32.length = 32 := rfl
theorem info_hash0 : (Try.prog.info? 26).map (fun i => (i.zero, i.size)) = some (some (.agg (hcel z32)), 32) := by kernel_rfl
theorem low_byte_at (t k : Nat) (ht : t < top) (hk : k < 32) : (hcel (low t 32))[k]? = some (.int .u8 ((t / 256 ^ k % 256 : Nat) : Int)) := by
  have hl : k < (low t 32).length := by rw [low_length]; exact hk
  rw [hcel_get _ k hl]
  have e := byte_of (low t 32) k hl
  rw [num_low t 32 (by rw [← top256]; exact ht)] at e
  rw [← e, bv, UInt8.toNat_ofNat']

set_option maxHeartbeats 4000000 in
set_option maxRecDepth 100000 in
theorem refTBits_any (t : Nat) (w : World) (ht : t < top) :
    Calls Try.prog 45 #[.agg #[.int .u64 (lim t 0 : Int), .int .u64 (lim t 1 : Int), .int .u64 (lim t 2 : Int), .int .u64 (lim t 3 : Int)]] w fun e w' => e = .returned (.int .u32 (bN t : Int)) ∧ Nx w w' := by
  obtain ⟨hz, hs⟩ := zero_of_info info_hash0
  replace hs := Lib.hid hs
  have HB := Lib.hid (fun w => refToHash_any t w)
  have HSZ : Hid ((Try.prog.info? 26).map (·.size) = some (hcel (low t 32)).size) := Lib.hid (by rw [hcel_size, low_length]; exact info_hash)
  have HO : Hid ((hcel z32).size = (hcel (low t 32)).size) := Lib.hid (by rw [hcel_size, hcel_size, low_length, z32_length])
  have HG := Lib.hid (fun k (hk : k < 32) => low_byte_at t k ht hk)
  have HS := Lib.hid (szK_all t ht)
  have HSL := Lib.hid (fun k => (szK_spec t k).2.1)
  have HZ : Hid (szK t 0 = 0) := Lib.hid rfl
  have HSTEP := Lib.hid (fun k => show szK t (k + 1) = if t / 256 ^ k % 256 = 0 then szK t k else k + 1 from rfl)
  have HTOP := Lib.hid (bN_top t ht)
  have HSIZE := Lib.hid (size256 t)
  have HNONE : Hid (sizeN t = 0 → bN t = 0) := Lib.hid (fun e => by
    have h := size256 t
    rw [e] at h
    have : t = 0 := by simpa using h
    subst this
    exact bN_zero)
  have HNL := Lib.hid (sizeN_le t ht)
  clear ht
  generalize bN t = B at *
  go_enter Try.func45, Try.ntmps45
  go_wp2_with fail
  refine (HB.out _).mono ?_
  rintro e w1 ⟨rfl, hb1⟩
  have N1 := Lib.hid (((Nx.refl w).alloc (.cells #[.int .u64 (lim t 0 : Int), .int .u64 (lim t 1 : Int), .int .u64 (lim t 2 : Int), .int .u64 (lim t 3 : Int)] 24)).trans hb1)
  have RT := Row.new w1 (hcel z32) 26 w1.heap.size rfl
  go_wp2_with (first | (refine wpList_store_row rfl 26 (.tmp 3) (.tmp 9) rfl w1.heap.size (hcel (low t 32)) rfl rfl 26 (hcel z32) RT HSZ.out HO.out (hcel_one _) ?_))
  have RX := Lib.hid (RT.setRow (hcel (low t 32)))
  replace N1 := Lib.hid ((N1.out.alloc (.cells (hcel z32) 26)).setRow (g := w1.heap.size) (hcel (low t 32)) N1.out.size)
  clear RT hb1 hz
  go_loop [4, 5] (fun n i => ∃ k : Nat, k ≤ 32 ∧ i = .int .i64 k ∧ n = .int .i64 (szK t k : Int)) (fun _ i => 32 - (intOf i).toNat)
  case atStart => exact ⟨0, by omega, rfl, by rw [HZ.out]; rfl⟩
  case round =>
    obtain ⟨k, hk, rfl, rfl⟩ := hrel
    by_cases hlt : k < 32
    · have hki : (k : Int) < 32 := by omega
      have hk0 : (0 : Int) ≤ (k : Int) := by omega
      have ck := RX.out.cell (HG.out k hlt)
      have HS1 := Lib.hid (HSTEP.out k)
      generalize t / 256 ^ k % 256 = x at *
      generalize szK t k = s at *
      by_cases hx : x = 0
      · subst hx
        clear HTOP HSIZE HNONE HG
        go_wp2
        go_round
        case rel => exact ⟨k + 1, by omega, by go_num, by rw [HS1.out]; rfl⟩
        case measure => simp [intOf]; omega
      · have hx0 : ¬ (x : Int) = 0 := by omega
        clear HTOP HSIZE HNONE HG
        go_wp2
        go_round
        case rel => exact ⟨k + 1, by omega, by go_num, by rw [HS1.out, if_neg hx]; go_num⟩
        case measure => simp [intOf]; omega
    · obtain rfl : k = 32 := by omega
      rw [HS.out]
      clear hlt hk HS HZ HSTEP HSL
      generalize sizeN t = n at *
      by_cases hn : n = 0
      · subst hn
        have hb0 := Lib.hid (HNONE.out rfl)
        clear HTOP HSIZE HNONE HG
        go_wp2
        go_ret
        exact ⟨by rw [hb0.out]; rfl, N1.out⟩
      · have hn0 : ¬ (n : Int) = 0 := by omega
        have hnl := HNL.out
        have hn1 : (1 : Int) ≤ (n : Int) := by omega
        have hn2 : (n : Int) ≤ 32 := by omega
        have HT0 := Lib.hid (tpK_zero t n HSIZE.out)
        have HTI := Lib.hid (fun k => tpK_in t n k)
        have HTO := Lib.hid (fun k => tpK_out t n k)
        have HTL := Lib.hid (fun k => tpK_lt t n k HSIZE.out)
        clear HNONE HSIZE HNL
        go_wp2
        go_loop [6, 7] (fun m i => ∃ k : Nat, k ≤ 3 ∧ i = .int .i64 ((k + 1 : Nat) : Int) ∧ m = .int .u32 (tpK t n k : Int)) (fun _ i => 4 - (intOf i).toNat)
        case atStart => exact ⟨0, by omega, rfl, by rw [HT0.out]; rfl⟩
        case round =>
          obtain ⟨k, hk, rfl, rfl⟩ := hrel
          have hml := HTL.out k
          by_cases hlt : k < 3
          · have hml2 : tpK t n k < 65536 := by
              have hc : k = 0 ∨ k = 1 ∨ k = 2 := by omega
              rcases hc with rfl | rfl | rfl <;> omega
            have HI := Lib.hid (HTI.out k)
            have HU := Lib.hid (HTO.out k)
            have hwm : IntKind.u32.wrap (256 * (tpK t n k : Int)) = 256 * (tpK t n k : Int) := by rw [IntKind.wrap_u32]; omega
            have hki : (k : Int) + 1 ≤ 3 := by omega
            have hki0 : (0 : Int) ≤ (k : Int) := by omega
            generalize tpK t n k = m at *
            by_cases hin : k + 1 ≤ n
            · have ck := RX.out.cell (HG.out (n - (k + 1)) (by omega))
              have HI1 := Lib.hid (HI.out hin)
              have hd0 : (0 : Int) ≤ (n : Int) - ((k : Int) + 1) := by omega
              have hd1 : (n : Int) - ((k : Int) + 1) < 32 := by omega
              have hdt : ((n : Int) - ((k : Int) + 1)).toNat = n - (k + 1) := by omega
              have hxl : t / 256 ^ (n - (k + 1)) % 256 < 256 := Nat.mod_lt _ (by decide)
              generalize t / 256 ^ (n - (k + 1)) % 256 = x at *
              have hwx : IntKind.u32.wrap (x : Int) = (x : Int) := by rw [IntKind.wrap_u32]; omega
              have hws : IntKind.u32.wrap (256 * (m : Int) + (x : Int)) = 256 * (m : Int) + (x : Int) := by rw [IntKind.wrap_u32]; omega
              have HV : Hid (256 * (m : Int) + (x : Int) = ((256 * m + x : Nat) : Int)) := show _ = _ by omega
              clear HTOP HG HTI HTO HTL HI HU HT0 hml hml2 hin hlt
              go_wp2
              go_round
              case rel => exact ⟨k + 1, by omega, by go_num, by rw [HI1.out, HV.out]⟩
              case measure => simp [intOf]; omega
            · have HU1 := Lib.hid (HU.out (by omega))
              have hneg2 : decide ((k : Int) + 1 ≤ (n : Int)) = false := by rw [decide_eq_false_iff_not]; omega
              have hneg3 : (n : Int) < (k : Int) + 1 := by omega
              have hneg : decide ((0 : Int) ≤ (n : Int) - ((k : Int) + 1)) = false := by rw [decide_eq_false_iff_not]; omega
              have hwd : IntKind.i64.wrap ((n : Int) - ((k : Int) + 1)) = (n : Int) - ((k : Int) + 1) := IntWalk.i64_in _ (by omega)
              have HV : Hid (256 * (m : Int) = ((256 * m : Nat) : Int)) := show _ = _ by omega
              clear HTOP HG HTI HTO HTL HI HU HT0 hml hml2 hin hlt
              go_wp2
              go_round
              case rel => exact ⟨k + 1, by omega, by go_num, by rw [HU1.out, HV.out]⟩
              case measure => simp [intOf]; omega
          · obtain rfl : k = 3 := by omega
            have hml2 : tpK t n 3 < 16777216 := by omega
            generalize tpK t n 3 = m at *
            clear HTI HTO HTL HT0 HG RX hml hlt hk
            have hwn : IntKind.u32.wrap (n : Int) = (n : Int) := by rw [IntKind.wrap_u32]; omega
            by_cases hgt : 8388607 < m
            · have hgi : (8388607 : Int) < (m : Int) := by omega
              rw [if_pos hgt] at HTOP
              have hwn1 : IntKind.u32.wrap ((n : Int) + 1) = (n : Int) + 1 := by rw [IntKind.wrap_u32]; omega
              have hwi1 : IntKind.i64.wrap ((n : Int) + 1) = (n : Int) + 1 := IntWalk.i64_in _ (by omega)
              have hwt : IntKind.u32.wrap (16777216 * ((n : Int) + 1)) = 16777216 * ((n : Int) + 1) := by rw [IntKind.wrap_u32]; omega
              have hwq : IntKind.u32.wrap ((m : Int) / 256) = (m : Int) / 256 := by rw [IntKind.wrap_u32]; omega
              have hws : IntKind.u32.wrap (16777216 * ((n : Int) + 1) + (m : Int) / 256) = (B : Int) := by rw [HTOP.out, IntKind.wrap_u32]; omega
              clear hgt hml2 HTOP
              go_wp2
              go_ret
              exact ⟨by first | rfl | rw [hws], N1.out⟩
            · have hgi : decide ((8388607 : Int) < (m : Int)) = false := by rw [decide_eq_false_iff_not]; omega
              rw [if_neg hgt] at HTOP
              have hwt : IntKind.u32.wrap (16777216 * (n : Int)) = 16777216 * (n : Int) := by rw [IntKind.wrap_u32]; omega
              have hws : IntKind.u32.wrap (16777216 * (n : Int) + (m : Int)) = (B : Int) := by rw [HTOP.out, IntKind.wrap_u32]; omega
              clear hgt hml2 HTOP
              go_wp2
              go_ret
              exact ⟨by first | rfl | rw [hws], N1.out⟩
end Go.Proofs.Ytggemncdnclhnaa

namespace Go.Proofs.Ytggemncdnclhnaa
open Go.RowKit
set_option linter.unusedVariables false
set_option linter.unusedSimpArgs false

theorem refOf_0 (w : World) : Calls Try.prog 16 #[.int .u64 0] w fun e w' => e = .returned (.agg #[.int .u64 0, .int .u64 0, .int .u64 0, .int .u64 0]) ∧ Nx w w' := by
  have h := refOf_any 0 w (by omega)
  obtain ⟨z0, z1, z2, z3⟩ := lim_nought
  rw [z0, z1, z2, z3] at h
  exact h
theorem of_res (b : Nat) (s p q : Bool) (hs : decide (b / 8388608 % 2 = 1) = s) (hp : decide (tN b = 0) = p) (hq : decide (bN (tN b) = b) = q) :
    (ofE b = if s || p || !q then 5 else 0) ∧ (ofT b = if s || p || !q then 0 else tN b) := by
  rcases s with _ | _
  · unfold ofE ofT
    have e : (tN b = 0 ∨ bN (tN b) ≠ b) ↔ (false || p || !q) = true := by
      rw [← hp, ← hq]
      simp
    by_cases h : (false || p || !q) = true
    · rw [if_pos (e.2 h), if_pos (e.2 h), if_pos h, if_pos h]
      exact ⟨rfl, rfl⟩
    · rw [if_neg (fun h2 => h (e.1 h2)), if_neg (fun h2 => h (e.1 h2)), if_neg h, if_neg h]
      exact ⟨rfl, rfl⟩
  · have := sign_no b (by simpa using hs)
    rw [this.1, this.2]
    exact ⟨rfl, rfl⟩
theorem hbK_next (b k e : Nat) (he : b / 16777216 = e) : hbK b (k + 1) = if 3 ≤ e + k ∧ e + k < 35 then (hbK b k).set (e + k - 3) (UInt8.ofNat (b % 8388608 / 256 ^ k)) else hbK b k := by
  rw [← he]
  rfl

set_option maxHeartbeats 4000000 in
set_option maxRecDepth 100000 in
theorem refTOf_any (b : Nat) (w : World) (hb : (b : Int) ≤ 4294967295) :
    Calls Try.prog 41 #[.int .u32 (b : Int)] w fun e w' => e = .returned (.tuple #[.agg #[.int .u64 (lim (ofT b) 0 : Int), .int .u64 (lim (ofT b) 1 : Int), .int .u64 (lim (ofT b) 2 : Int), .int .u64 (lim (ofT b) 3 : Int)], .int .i64 (ofE b)]) ∧ Nx w w' := by
  have HB := Lib.hid (fun w => refTBits_any (tN b) w (tN_lt b))
  obtain ⟨s, hs⟩ : ∃ s, decide (b / 8388608 % 2 = 1) = s := ⟨_, rfl⟩
  obtain ⟨p, hp⟩ : ∃ p, decide (tN b = 0) = p := ⟨_, rfl⟩
  obtain ⟨q, hq⟩ : ∃ q, decide (bN (tN b) = b) = q := ⟨_, rfl⟩
  have heq : ∀ w, (Op.equalIn 10000 24 (.agg #[.int .u64 (lim (tN b) 0 : Int), .int .u64 (lim (tN b) 1 : Int), .int .u64 (lim (tN b) 2 : Int), .int .u64 (lim (tN b) 3 : Int)]) (.agg #[.int .u64 0, .int .u64 0, .int .u64 0, .int .u64 0])).run Try.prog w = .ok p w := fun w => by rw [eqU0 _ (tN_lt b) w, hp]
  have hne : (((bN (tN b) : Nat) : Int) == (b : Int)) = q := by
    rw [← hq, Bool.eq_iff_iff]
    simp only [beq_iff_eq, decide_eq_true_eq]
    omega
  have hne2 : (((bN (tN b) : Nat) : Int) != (b : Int)) = !q := by rw [← hne]; rfl
  have hsg : decide ((b : Int) / 8388608 % 2 = 1) = s := by
    rw [← hs, Bool.eq_iff_iff]
    simp only [decide_eq_true_eq]
    omega
  have hsg3 : ((IntKind.u32.wrap ((b : Int) / 8388608)).tmod 2 == 1) = s := by
    rw [IntKind.wrap_u32, Int.tmod_eq_emod_of_nonneg (by omega), ← hs, Bool.eq_iff_iff]
    simp only [beq_iff_eq, decide_eq_true_eq]
    omega
  have hsg2 : ((b : Int) / 8388608 % 2 == 1) = s := by
    rw [← hs, Bool.eq_iff_iff]
    simp only [beq_iff_eq, decide_eq_true_eq]
    omega
  have HRES := Lib.hid (of_res b s p q hs hp hq)
  have HOUT := Lib.hid (fun k hk h => outB_no b k hk h)
  have HNUM := Lib.hid (hbK_num b)
  have HOFH := Lib.hid (fun w => refOfHash_any (hbK b 3) w (hbK_length b 3))
  have HL := Lib.hid (hbK_length b)
  obtain ⟨zz0, zz1, zz2, zz3⟩ := lim_nought
  obtain ⟨e, he⟩ : ∃ e : Nat, b / 16777216 = e := ⟨_, rfl⟩
  have HNX := Lib.hid (fun k => hbK_next b k e he)
  have HZ : Hid (hbK b 0 = z32) := Lib.hid rfl
  have hei : (b : Int) / 16777216 = (e : Int) := by omega
  have hel : (e : Int) ≤ 255 := by omega
  have HBO : Hid (∀ k, outB b k ↔ (35 ≤ e + k ∧ b % 8388608 / 256 ^ k % 256 ≠ 0)) := Lib.hid (fun k => by unfold outB; rw [he])
  obtain ⟨m0, hm0⟩ : ∃ m0 : Nat, b % 8388608 = m0 := ⟨_, rfl⟩
  have hmi : (b : Int) % 8388608 = (m0 : Int) := by omega
  have hml : (m0 : Int) < 8388608 := by omega
  rw [hm0] at HBO HNX
  have HDIV : Hid (∀ k, m0 / 256 ^ k / 256 = m0 / 256 ^ (k + 1)) := Lib.hid (fun k => by rw [Nat.div_div_eq_div_mul, ← Nat.pow_succ])
  have HLE : Hid (∀ k, m0 / 256 ^ k ≤ m0) := Lib.hid (fun k => Nat.div_le_self _ _)
  clear hs hp hq hm0 he
  generalize bN (tN b) = B at *
  generalize ofE b = E at *
  generalize ofT b = T at *
  generalize tN b = t at *
  go_enter Try.func41, Try.ntmps41
  go_wp2
  go_loopw [4, 7] (fun m i wr => ∃ k : Nat, k ≤ 3 ∧ i = .int .i64 k ∧ m = .int .u32 ((m0 / 256 ^ k : Nat) : Int) ∧ Hid (∀ j, j < k → ¬ outB b j) ∧ Hid (Nx w wr) ∧ Row wr w.heap.size #[.int .u64 0, .int .u64 0, .int .u64 0, .int .u64 0] 24 ∧ Row wr (w.heap.size + 1) (hcel (hbK b k)) 26) (fun _ i _ => 3 - (intOf i).toNat)
  case atStart =>
    refine ⟨0, by omega, rfl, by rw [Nat.pow_zero, Nat.div_one, ← hmi], fun j hj => absurd hj (by omega), ((Nx.refl w).alloc _).alloc _, (Row.new _ _ _ _ rfl).alloc _, ?_⟩
    rw [HZ.out]
    exact Row.new2 _ _ _ _
  case round =>
    obtain ⟨k, hk, rfl, rfl, HNO, HN, RZ, RH⟩ := hrel
    by_cases hlt : k < 3
    · have hki : (k : Int) < 3 := by omega
      have hk0 : (0 : Int) ≤ (k : Int) := by omega
      have HD := Lib.hid (HDIV.out k)
      have hle := HLE.out k
      have HB1 := HBO.out k
      have HNX1 := Lib.hid (HNX.out k)
      have HOUT1 := Lib.hid (HOUT.out k hlt)
      have HLK := Lib.hid (HL.out k)
      have hyl : ((m0 / 256 ^ k : Nat) : Int) ≤ 8388607 := by omega
      generalize m0 / 256 ^ k = y at *
      obtain ⟨x, hx⟩ : ∃ x : Nat, y % 256 = x := ⟨_, rfl⟩
      have hxi : (y : Int) % 256 = (x : Int) := by omega
      have hxl : (x : Int) ≤ 255 := by omega
      have hwx : IntKind.u8.wrap (x : Int) = (x : Int) := by rw [IntKind.wrap_u8]; omega
      have hwx2 : IntKind.u32.wrap (x : Int) = (x : Int) := by rw [IntKind.wrap_u32]; omega
      have hwy : IntKind.u32.wrap ((y : Int) / 256) = (y : Int) / 256 := by rw [IntKind.wrap_u32]; omega
      have HY : Hid ((y : Int) / 256 = ((y / 256 : Nat) : Int)) := show _ = _ by omega
      have hwa : IntKind.i64.wrap ((e : Int) - 3) = (e : Int) - 3 := IntWalk.i64_in _ (by omega)
      rw [hx] at HB1
      have fz := RZ.frozen
      obtain ⟨z0, z1, z2, z3⟩ := RZ.zero4
      by_cases hlow : 3 ≤ e + k
      · obtain ⟨d, hd⟩ : ∃ d : Nat, e + k - 3 = d := ⟨_, rfl⟩
        have hdi : (e : Int) - 3 + (k : Int) = (d : Int) := by omega
        have hwb : IntKind.i64.wrap ((e : Int) - 3 + (k : Int)) = (d : Int) := by rw [hdi]; exact IntWalk.i64_in _ (by omega)
        have hd0 : (0 : Int) ≤ (d : Int) := by omega
        by_cases hhi : e + k < 35
        · have hd1 : (d : Int) < 32 := by omega
          have hd2 : decide ((32 : Int) ≤ (d : Int)) = false := by rw [decide_eq_false_iff_not]; omega
          have hdl : d < (hbK b k).length := by rw [HLK.out]; omega
          obtain ⟨vh, ch⟩ : ∃ v, wr.cell? ⟨w.heap.size + 1, d, none⟩ = some v := ⟨_, RH.cell (hcel_get _ d hdl)⟩
          have fh := RH.frozen
          have HCS : Hid ((hcel (hbK b k)).setIfInBounds d (.int .u8 (x : Int)) = hcel (hbK b (k + 1))) := by
            show _ = _
            rw [HNX1.out, if_pos ⟨hlow, hhi⟩, hd, ← hcel_set _ _ _ hdl, bv, UInt8.toNat_ofNat']
            rw [show y % 2 ^ 8 = x from hx]
          have HNO2 : Hid (∀ j, j < k + 1 → ¬ outB b j) := by
            intro j hj
            rcases Nat.lt_or_eq_of_le (Nat.le_of_lt_succ hj) with h | rfl
            · exact HNO.out j h
            · rw [HB1]; omega
          clear HB1 HNX HNX1 HOUT HOUT1 HBO HNO hdl hhi hlow hd hx hle HLE HL HLK HOFH HNUM
          go_wp2
          go_roundw
          case rel =>
            refine ⟨k + 1, by omega, by go_num, by rw [← HD.out, HY.out], HNO2, HN.out.setAt _ (by omega), RZ.other _ _ _ (by omega), ?_⟩
            rw [← HCS.out]
            exact RH.set d _
          case measure => simp [intOf]; omega
        · have hd1 : decide ((d : Int) < 32) = false := by rw [decide_eq_false_iff_not]; omega
          have hd2 : (32 : Int) ≤ (d : Int) := by omega
          have HKK : Hid (hbK b (k + 1) = hbK b k) := by show _ = _; rw [HNX1.out, if_neg (by omega)]
          by_cases hx0 : x = 0
          · have HNO2 : Hid (∀ j, j < k + 1 → ¬ outB b j) := by
              intro j hj
              rcases Nat.lt_or_eq_of_le (Nat.le_of_lt_succ hj) with h | rfl
              · exact HNO.out j h
              · rw [HB1]; omega
            have hxz : (x : Int) = 0 := by omega
            clear HB1 HNX HNX1 HOUT HOUT1 HBO HNO hhi hlow hd hx hle HLE HL HLK HOFH HNUM
            subst hx0
            go_wp2
            go_roundw
            case rel =>
              refine ⟨k + 1, by omega, by go_num, by rw [← HD.out, HY.out], HNO2, HN, RZ, ?_⟩
              rw [HKK.out]
              exact RH
            case measure => simp [intOf]; omega
          · obtain ⟨hE, hT⟩ := HOUT1.out (HB1.2 ⟨by omega, hx0⟩)
            have hxz : ((x : Int) != 0) = true := by rw [bne_iff_ne]; omega
            have hxz2 : ((x : Int) == 0) = false := by rw [beq_eq_false_iff_ne]; omega
            replace hE := Lib.hid hE
            replace hT := Lib.hid hT
            clear HB1 HNX HNX1 HOUT HOUT1 HBO HNO hhi hlow hd hx hle HLE HL HLK HOFH HNUM HRES
            go_upto_if 34 with (fail)
            go_wp2
            exact bodyPost_ret (v := .tuple #[.agg #[.int .u64 0, .int .u64 0, .int .u64 0, .int .u64 0], .int .i64 5]) (by simp [results, Try.results41, go_sem, z0, z1, z2, z3, fz]) rfl
              ⟨by rw [hE.out, hT.out]; simp [zz0, zz1, zz2, zz3], by repeat (first | with_reducible exact HN.out | with_reducible refine Nx.setAt ?_ _ (by omega))⟩
      · have hneg : decide ((0 : Int) ≤ (e : Int) - 3 + (k : Int)) = false := by rw [decide_eq_false_iff_not]; omega
        have hneg2 : decide ((32 : Int) ≤ (e : Int) - 3 + (k : Int)) = false := by rw [decide_eq_false_iff_not]; omega
        have hwb : IntKind.i64.wrap ((e : Int) - 3 + (k : Int)) = (e : Int) - 3 + (k : Int) := IntWalk.i64_in _ (by omega)
        have HKK : Hid (hbK b (k + 1) = hbK b k) := by show _ = _; rw [HNX1.out, if_neg (by omega)]
        have HNO2 : Hid (∀ j, j < k + 1 → ¬ outB b j) := by
          intro j hj
          rcases Nat.lt_or_eq_of_le (Nat.le_of_lt_succ hj) with h | rfl
          · exact HNO.out j h
          · rw [HB1]; omega
        clear HB1 HNX HNX1 HOUT HOUT1 HBO HNO hlow hx hle HLE HL HLK HOFH HNUM
        go_wp2
        go_roundw
        case rel =>
          refine ⟨k + 1, by omega, by go_num, by rw [← HD.out, HY.out], HNO2, HN, RZ, ?_⟩
          rw [HKK.out]
          exact RH
        case measure => simp [intOf]; omega
    · obtain rfl : k = 3 := by omega
      have hsz := Lib.hid (show (Try.prog.info? 26).map (·.size) = some (hcel (hbK b 3)).size by rw [hcel_size, HL.out]; exact info_hash)
      have hnum := HNUM.out HNO.out
      rw [hnum] at HOFH
      clear hnum HNUM HNO HOUT HBO HNX HL HLE HDIV hlt hk
      generalize m0 / 256 ^ 3 = y at *
      generalize hbK b 3 = l at *
      have RH' := RH
      go_wp2_with (first | (refine wpList_load_row rfl 26 (.tmp 6) rfl (w.heap.size + 1) rfl 26 (hcel l) (0, 0) _ RH' Try.underlying26 rfl hsz.out ?_) | fail)
      refine (HOFH.out _).mono ?_
      rintro e1 w1 ⟨rfl, hb1⟩
      have N1 := Lib.hid ((HN.out.trans hb1).alloc (.cells #[.int .u64 (lim t 0 : Int), .int .u64 (lim t 1 : Int), .int .u64 (lim t 2 : Int), .int .u64 (lim t 3 : Int)] 24))
      replace RZ := (RZ.nx hb1).alloc (.cells #[.int .u64 (lim t 0 : Int), .int .u64 (lim t 1 : Int), .int .u64 (lim t 2 : Int), .int .u64 (lim t 3 : Int)] 24)
      have RT : Row (w1.alloc (.cells #[.int .u64 (lim t 0 : Int), .int .u64 (lim t 1 : Int), .int .u64 (lim t 2 : Int), .int .u64 (lim t 3 : Int)] 24)) w1.heap.size #[.int .u64 (lim t 0 : Int), .int .u64 (lim t 1 : Int), .int .u64 (lim t 2 : Int), .int .u64 (lim t 3 : Int)] 24 := Row.new w1 _ _ _ rfl
      clear hb1 RH RH' HN HOFH hsz
      go_wp2_with fail
      generalize w1.heap.size = gT at *
      generalize (w1.alloc (.cells #[.int .u64 (lim t 0 : Int), .int .u64 (lim t 1 : Int), .int .u64 (lim t 2 : Int), .int .u64 (lim t 3 : Int)] 24)) = W at *
      have qt0 : ∀ d os, (Sort.grow (redrawn W d) os).cell? ⟨gT, 0, none⟩ = some (.int .u64 (lim t 0 : Int)) := fun d os => cell_regrown (RT.cell rfl) d os
      have qt1 : ∀ d os, (Sort.grow (redrawn W d) os).cell? ⟨gT, 1, none⟩ = some (.int .u64 (lim t 1 : Int)) := fun d os => cell_regrown (RT.cell rfl) d os
      have qt2 : ∀ d os, (Sort.grow (redrawn W d) os).cell? ⟨gT, 2, none⟩ = some (.int .u64 (lim t 2 : Int)) := fun d os => cell_regrown (RT.cell rfl) d os
      have qt3 : ∀ d os, (Sort.grow (redrawn W d) os).cell? ⟨gT, 3, none⟩ = some (.int .u64 (lim t 3 : Int)) := fun d os => cell_regrown (RT.cell rfl) d os
      obtain ⟨hE, hT⟩ := HRES.out
      replace hE := Lib.hid hE
      replace hT := Lib.hid hT
      clear HRES
      rcases s with _ | _ <;> rcases p with _ | _ <;> rcases q with _ | _
      all_goals
        refine wp_region_quiet_below (by kernel_rfl) (by kernel_rfl) ?_
        repeat (first
          | quiet_step ((first
            | (go_at_call 16; with_reducible exact Calls.regrown_of (refOf_0 _))
            | (go_at_call 45; with_reducible exact Calls.regrown_of (HB.out _)))))
        refine wpQuiet_nil ?_
        intro _ hw'
        obtain ⟨⟨dq, osq⟩, hw''⟩ := hw'
        subst hw''
        have HG := below_regrown W dq osq
        have RZ2 := Row.nx RZ HG
        have RT2 := Row.nx RT HG
        have N2 := Lib.hid (N1.out.trans HG)
        clear HG
        generalize Sort.grow (redrawn W dq) osq = W2 at *
        obtain ⟨z0, z1, z2, z3⟩ := RZ2.zero4
        obtain ⟨t0, t1, t2, t3⟩ := RT2.four
        have fz := RZ2.frozen
        clear qt0 qt1 qt2 qt3 RZ RT RZ2 RT2 N1
        go_wp2
      · exact bodyPost_ret (v := .tuple #[.agg #[.int .u64 0, .int .u64 0, .int .u64 0, .int .u64 0], .int .i64 5]) (by simp [results, Try.results41, go_sem, z0, z1, z2, z3, fz]) rfl
          ⟨by rw [hE.out, hT.out]; simp [zz0, zz1, zz2, zz3], by repeat (first | with_reducible exact N2.out | with_reducible refine Nx.setAt ?_ _ (by omega))⟩
      · exact bodyPost_ret (v := .tuple #[.agg #[.int .u64 (lim t 0 : Int), .int .u64 (lim t 1 : Int), .int .u64 (lim t 2 : Int), .int .u64 (lim t 3 : Int)], .int .i64 0]) (by simp [results, Try.results41, go_sem, z0, z1, z2, z3, fz]) rfl
          ⟨by rw [hE.out, hT.out]; simp, by repeat (first | with_reducible exact N2.out | with_reducible refine Nx.setAt ?_ _ (by omega))⟩
      · exact bodyPost_ret (v := .tuple #[.agg #[.int .u64 0, .int .u64 0, .int .u64 0, .int .u64 0], .int .i64 5]) (by simp [results, Try.results41, go_sem, z0, z1, z2, z3, fz]) rfl
          ⟨by rw [hE.out, hT.out]; simp [zz0, zz1, zz2, zz3], by repeat (first | with_reducible exact N2.out | with_reducible refine Nx.setAt ?_ _ (by omega))⟩
      · exact bodyPost_ret (v := .tuple #[.agg #[.int .u64 0, .int .u64 0, .int .u64 0, .int .u64 0], .int .i64 5]) (by simp [results, Try.results41, go_sem, z0, z1, z2, z3, fz]) rfl
          ⟨by rw [hE.out, hT.out]; simp [zz0, zz1, zz2, zz3], by repeat (first | with_reducible exact N2.out | with_reducible refine Nx.setAt ?_ _ (by omega))⟩
      · exact bodyPost_ret (v := .tuple #[.agg #[.int .u64 0, .int .u64 0, .int .u64 0, .int .u64 0], .int .i64 5]) (by simp [results, Try.results41, go_sem, z0, z1, z2, z3, fz]) rfl
          ⟨by rw [hE.out, hT.out]; simp [zz0, zz1, zz2, zz3], by repeat (first | with_reducible exact N2.out | with_reducible refine Nx.setAt ?_ _ (by omega))⟩
      · exact bodyPost_ret (v := .tuple #[.agg #[.int .u64 0, .int .u64 0, .int .u64 0, .int .u64 0], .int .i64 5]) (by simp [results, Try.results41, go_sem, z0, z1, z2, z3, fz]) rfl
          ⟨by rw [hE.out, hT.out]; simp [zz0, zz1, zz2, zz3], by repeat (first | with_reducible exact N2.out | with_reducible refine Nx.setAt ?_ _ (by omega))⟩
      · exact bodyPost_ret (v := .tuple #[.agg #[.int .u64 0, .int .u64 0, .int .u64 0, .int .u64 0], .int .i64 5]) (by simp [results, Try.results41, go_sem, z0, z1, z2, z3, fz]) rfl
          ⟨by rw [hE.out, hT.out]; simp [zz0, zz1, zz2, zz3], by repeat (first | with_reducible exact N2.out | with_reducible refine Nx.setAt ?_ _ (by omega))⟩
      · exact bodyPost_ret (v := .tuple #[.agg #[.int .u64 0, .int .u64 0, .int .u64 0, .int .u64 0], .int .i64 5]) (by simp [results, Try.results41, go_sem, z0, z1, z2, z3, fz]) rfl
          ⟨by rw [hE.out, hT.out]; simp [zz0, zz1, zz2, zz3], by repeat (first | with_reducible exact N2.out | with_reducible refine Nx.setAt ?_ _ (by omega))⟩
end Go.Proofs.Ytggemncdnclhnaa

namespace Go.Proofs.Ytggemncdnclhnaa
open Go.RowKit
set_option linter.unusedVariables false
set_option linter.unusedSimpArgs false

theorem refAdd_n (a b : Nat) (w : World) (ha : a < top) (hb : b < top) :
    Calls Try.prog 27 #[.agg #[.int .u64 (lim a 0 : Int), .int .u64 (lim a 1 : Int), .int .u64 (lim a 2 : Int), .int .u64 (lim a 3 : Int)], .agg #[.int .u64 (lim b 0 : Int), .int .u64 (lim b 1 : Int), .int .u64 (lim b 2 : Int), .int .u64 (lim b 3 : Int)]] w fun e w' => e = .returned (.tuple #[.agg #[.int .u64 (lim (addN a b) 0 : Int), .int .u64 (lim (addN a b) 1 : Int), .int .u64 (lim (addN a b) 2 : Int), .int .u64 (lim (addN a b) 3 : Int)], .bool (addB a b)]) ∧ Nx w w' := by
  obtain ⟨e0, e1, e2, e3⟩ := lim_mod (a + b)
  unfold addN
  rw [e0, e1, e2, e3]
  exact refAdd_any a b w ha hb
theorem refMul_n (a n : Nat) (w : World) (ha : a < top) (hn : (n : Int) ≤ 18446744073709551615) :
    Calls Try.prog 31 #[.agg #[.int .u64 (lim a 0 : Int), .int .u64 (lim a 1 : Int), .int .u64 (lim a 2 : Int), .int .u64 (lim a 3 : Int)], .int .u64 (n : Int)] w fun e w' => e = .returned (.tuple #[.agg #[.int .u64 (lim (mulN a n) 0 : Int), .int .u64 (lim (mulN a n) 1 : Int), .int .u64 (lim (mulN a n) 2 : Int), .int .u64 (lim (mulN a n) 3 : Int)], .int .u64 (mulH a n : Int)]) ∧ Nx w w' := by
  obtain ⟨e0, e1, e2, e3⟩ := lim_mod (a * n)
  unfold mulN
  rw [e0, e1, e2, e3]
  exact refMul_any a n w ha hn
theorem refDiv_480 (t : Nat) (w : World) (ht : t < top) : Calls Try.prog 35 #[.agg #[.int .u64 (lim t 0 : Int), .int .u64 (lim t 1 : Int), .int .u64 (lim t 2 : Int), .int .u64 (lim t 3 : Int)], .int .u64 480] w fun e w' => e = .returned (.tuple #[.agg #[.int .u64 (lim (t / 480) 0 : Int), .int .u64 (lim (t / 480) 1 : Int), .int .u64 (lim (t / 480) 2 : Int), .int .u64 (lim (t / 480) 3 : Int)], .int .u64 ((t % 480 : Nat) : Int), .int .i64 0]) ∧ Nx w w' := by
  have h := refDiv_any t 480 w ht (by omega)
  have e1 : overQ t 480 = t / 480 := if_neg (by decide)
  have e2 : overR t 480 = t % 480 := if_neg (by decide)
  have e3 : lim (t % 480) 0 = t % 480 := by rw [lim0]; omega
  rw [e1, e2, e3] at h
  exact h
theorem refOf_1 (w : World) : Calls Try.prog 16 #[.int .u64 1] w fun e w' => e = .returned (.agg #[.int .u64 (lim 1 0 : Int), .int .u64 (lim 1 1 : Int), .int .u64 (lim 1 2 : Int), .int .u64 (lim 1 3 : Int)]) ∧ Nx w w' := refOf_any 1 w (by omega)
theorem ofT_lim : ofT 545259519 = limN := by
  have h := lim_e
  unfold ofE at h
  unfold ofT limN
  by_cases hc : tN 545259519 = 0 ∨ bN (tN 545259519) ≠ 545259519
  · rw [if_pos hc] at h; cases h
  · rw [if_neg hc]
theorem refTOf_lim (w : World) : Calls Try.prog 41 #[.int .u32 545259519] w fun e w' => e = .returned (.tuple #[.agg #[.int .u64 (lim limN 0 : Int), .int .u64 (lim limN 1 : Int), .int .u64 (lim limN 2 : Int), .int .u64 (lim limN 3 : Int)], .int .i64 0]) ∧ Nx w w' := by
  have h := refTOf_any 545259519 w (by omega)
  rw [lim_e, ofT_lim] at h
  exact h

set_option maxHeartbeats 400000 in
theorem refTNext_no (b sp : Nat) (w : World) (hb : (b : Int) ≤ 4294967295) (h : ofE b = 5) :
    Calls Try.prog 48 #[.int .u32 (b : Int), .int .u32 (sp : Int)] w fun e w' => e = .returned (.tuple #[.int .u32 0, .int .i64 5]) ∧ Nx w w' := by
  have HO := Lib.hid (fun w => refTOf_any b w hb)
  rw [h] at HO
  clear h
  generalize ofT b = t at *
  go_enter Try.func48, Try.ntmps48
  go_wp2_with fail
  refine (HO.out _).mono ?_
  rintro e w1 ⟨rfl, hb1⟩
  have N1 := Lib.hid (hb1.alloc (.cells #[.int .u64 (lim t 0 : Int), .int .u64 (lim t 1 : Int), .int .u64 (lim t 2 : Int), .int .u64 (lim t 3 : Int)] 24))
  clear hb1
  go_wp2
  go_ret2
  exact ⟨rfl, N1.out⟩

end Go.Proofs.Ytggemncdnclhnaa

namespace Go.Proofs.Ytggemncdnclhnaa
open Go.RowKit
set_option linter.unusedVariables false
set_option linter.unusedSimpArgs false

theorem refSub_n (a b : Nat) (w : World) (ha : a < top) (hb : b < top) :
    Calls Try.prog 29 #[.agg #[.int .u64 (lim a 0 : Int), .int .u64 (lim a 1 : Int), .int .u64 (lim a 2 : Int), .int .u64 (lim a 3 : Int)], .agg #[.int .u64 (lim b 0 : Int), .int .u64 (lim b 1 : Int), .int .u64 (lim b 2 : Int), .int .u64 (lim b 3 : Int)]] w fun e w' => e = .returned (.tuple #[.agg #[.int .u64 (lim (subN a b) 0 : Int), .int .u64 (lim (subN a b) 1 : Int), .int .u64 (lim (subN a b) 2 : Int), .int .u64 (lim (subN a b) 3 : Int)], .bool (subB a b)]) ∧ Nx w w' := by
  obtain ⟨e0, e1, e2, e3, _⟩ := sub_facts a b ha hb
  rw [← e0, ← e1, ← e2, ← e3]
  exact refSub_any a b w ha hb
theorem refSub_01 (w : World) : Calls Try.prog 29 #[.agg #[.int .u64 0, .int .u64 0, .int .u64 0, .int .u64 0], .agg #[.int .u64 (lim 1 0 : Int), .int .u64 (lim 1 1 : Int), .int .u64 (lim 1 2 : Int), .int .u64 (lim 1 3 : Int)]] w fun e w' => e = .returned (.tuple #[.agg #[.int .u64 (lim (subN 0 1) 0 : Int), .int .u64 (lim (subN 0 1) 1 : Int), .int .u64 (lim (subN 0 1) 2 : Int), .int .u64 (lim (subN 0 1) 3 : Int)], .bool (subB 0 1)]) ∧ Nx w w' := by
  have h := refSub_n 0 1 w (by decide) (by decide)
  obtain ⟨z0, z1, z2, z3⟩ := lim_nought
  rw [z0, z1, z2, z3] at h
  exact h
/-- The work, as the document reckons it. -/
theorem work_last (t : Nat) (ht : t < top) (h : addB t 1 = true) (h0 : t ≠ 0) : workN t = 1 := by
  have e : t + 1 = top := by
    unfold addB at h
    simp only [decide_eq_true_eq] at h
    omega
  rw [workN_eq t h0 ht, e]
  exact Nat.div_self (by decide)
theorem work_ref (t : Nat) (ht : t < top) (h : addB t 1 = false) (h0 : t ≠ 0) :
    workN t = if overR (subN 0 1) (addN t 1) = subN (addN t 1) 1 then addN (overQ (subN 0 1) (addN t 1)) 1 else overQ (subN 0 1) (addN t 1) := by
  have hl : t + 1 < top := by
    unfold addB at h
    simp only [decide_eq_false_iff_not] at h
    omega
  have e1 : addN t 1 = t + 1 := Nat.mod_eq_of_lt hl
  have e2 : subN 0 1 = top - 1 := by unfold subN; rw [if_neg (by omega), Nat.add_zero]
  have e3 : subN (t + 1) 1 = t := by unfold subN; rw [if_pos (by omega)]; omega
  have eQ : overQ (top - 1) (t + 1) = (top - 1) / (t + 1) := if_neg (by omega)
  have eR : overR (top - 1) (t + 1) = (top - 1) % (t + 1) := if_neg (by omega)
  rw [e1, e2, e3, workN_eq t h0 ht, eQ, eR]
  have hd : 0 < t + 1 := by omega
  have h1 := Nat.div_add_mod (top - 1) (t + 1)
  have h2 := Nat.mod_lt (top - 1) hd
  have hq : (top - 1) / (t + 1) < top := Nat.lt_of_le_of_lt (Nat.div_le_self _ _) (by decide)
  have hT : top = (top - 1) + 1 := by decide
  by_cases hc : (top - 1) % (t + 1) = t
  · rw [if_pos hc]
    have e4 : top / (t + 1) = (top - 1) / (t + 1) + 1 := by
      have hm : top = (t + 1) * ((top - 1) / (t + 1) + 1) := by rw [Nat.mul_add, Nat.mul_one]; omega
      exact Nat.div_eq_of_eq_mul_right hd hm
    have e5 : top / (t + 1) < top := Nat.div_lt_self (by decide) (by omega)
    rw [e4]
    rw [e4] at e5
    exact (Nat.mod_eq_of_lt e5).symm
  · rw [if_neg hc]
    have hm : top = (t + 1) * ((top - 1) / (t + 1)) + ((top - 1) % (t + 1) + 1) := by omega
    generalize (top - 1) / (t + 1) = Q at *
    generalize (top - 1) % (t + 1) = R at *
    rw [hm, Nat.mul_add_div hd, Nat.div_eq_of_lt (by omega), Nat.add_zero]
def RWork4 (b t d : Nat) (v1 : Bool) (gT gZ : Nat) (w W : World) (_u : Value) (L : Nat → Bool) (ac : Act) (wr : World) : Prop :=
  ∃ x0 x1 x2 x3 x4 x5 x6 x8 : Value, ac = ⟨#[Value.int IntKind.u32 ↑b, undef, Value.pointer (some { block := gZ, off := 0 }), Value.int IntKind.i64 0, Value.pointer (some { block := gT, off := 0 }), Value.int IntKind.i64 0, x6, x8, undef, undef, undef, undef, undef, undef, undef, Value.tuple #[Value.agg #[Value.int IntKind.u64 ↑(lim t 0), Value.int IntKind.u64 ↑(lim t 1), Value.int IntKind.u64 ↑(lim t 2), Value.int IntKind.u64 ↑(lim t 3)], Value.int IntKind.i64 0], Value.int IntKind.u32 ↑b, Value.tuple #[Value.agg #[Value.int IntKind.u64 ↑(lim t 0), Value.int IntKind.u64 ↑(lim t 1), Value.int IntKind.u64 ↑(lim t 2), Value.int IntKind.u64 ↑(lim t 3)], Value.int IntKind.i64 0], Value.agg #[Value.int IntKind.u64 ↑(lim t 0), Value.int IntKind.u64 ↑(lim t 1), Value.int IntKind.u64 ↑(lim t 2), Value.int IntKind.u64 ↑(lim t 3)], Value.int IntKind.i64 0, Value.int IntKind.i64 0, Value.bool false, undef, undef, x3, x0, x1, x2, x4, x5, undef, undef, undef, undef, undef, undef, undef, undef, undef, undef, undef, undef, undef, undef, undef, undef, undef, undef, undef, undef, undef, undef, undef, undef, undef, undef, undef, undef, undef, undef, undef], []⟩ ∧ Nx w wr ∧ W.heap.size ≤ wr.heap.size ∧ Row wr gT #[.int .u64 (lim t 0 : Int), .int .u64 (lim t 1 : Int), .int .u64 (lim t 2 : Int), .int .u64 (lim t 3 : Int)] 24 ∧ Row wr gZ #[.int .u64 0, .int .u64 0, .int .u64 0, .int .u64 0] 24 ∧ (L 0 = true → x0 = .agg #[.int .u64 (lim t 0 : Int), .int .u64 (lim t 1 : Int), .int .u64 (lim t 2 : Int), .int .u64 (lim t 3 : Int)]) ∧ (L 1 = true → x1 = .agg #[.int .u64 (lim 1 0 : Int), .int .u64 (lim 1 1 : Int), .int .u64 (lim 1 2 : Int), .int .u64 (lim 1 3 : Int)]) ∧ (L 2 = true → x2 = .tuple #[.agg #[.int .u64 (lim d 0 : Int), .int .u64 (lim d 1 : Int), .int .u64 (lim d 2 : Int), .int .u64 (lim d 3 : Int)], .bool v1]) ∧ (L 3 = true → x3 = .tuple #[.agg #[.int .u64 (lim d 0 : Int), .int .u64 (lim d 1 : Int), .int .u64 (lim d 2 : Int), .int .u64 (lim d 3 : Int)], .bool v1]) ∧ (L 4 = true → x4 = .agg #[.int .u64 (lim d 0 : Int), .int .u64 (lim d 1 : Int), .int .u64 (lim d 2 : Int), .int .u64 (lim d 3 : Int)]) ∧ (L 5 = true → x5 = .bool v1) ∧ (L 6 = true → ∃ g, x6 = .pointer (some ⟨g, 0, none⟩) ∧ W.heap.size ≤ g ∧ Row wr g (if L 7 = true then #[.int .u64 (lim d 0 : Int), .int .u64 (lim d 1 : Int), .int .u64 (lim d 2 : Int), .int .u64 (lim d 3 : Int)] else #[.int .u64 0, .int .u64 0, .int .u64 0, .int .u64 0]) 24) ∧ (L 8 = true → x8 = .bool v1) ∧ (L 7 = true → L 6 = true)
def RWork9 (b t d m l q r : Nat) (v0 v2 : Bool) (er : Int) (gT gZ gD gM g10 g11 : Nat) (w W : World) (_u : Value) (L : Nat → Bool) (ac : Act) (wr : World) : Prop :=
  ∃ x0 x1 x2 x3 x4 x5 x6 x8 : Value, ac = ⟨#[Value.int IntKind.u32 ↑b, undef, Value.pointer (some { block := gZ, off := 0 }), Value.int IntKind.i64 0, Value.pointer (some { block := gT, off := 0 }), Value.int IntKind.i64 0, Value.pointer (some { block := gD, off := 0 }), Value.bool false, Value.pointer (some { block := gM, off := 0 }), Value.bool v0, Value.pointer (some { block := g10, off := 0 }), Value.pointer (some { block := g11, off := 0 }), Value.int IntKind.i64 er, x6, x8, Value.tuple #[Value.agg #[Value.int IntKind.u64 ↑(lim t 0), Value.int IntKind.u64 ↑(lim t 1), Value.int IntKind.u64 ↑(lim t 2), Value.int IntKind.u64 ↑(lim t 3)], Value.int IntKind.i64 0], Value.int IntKind.u32 ↑b, Value.tuple #[Value.agg #[Value.int IntKind.u64 ↑(lim t 0), Value.int IntKind.u64 ↑(lim t 1), Value.int IntKind.u64 ↑(lim t 2), Value.int IntKind.u64 ↑(lim t 3)], Value.int IntKind.i64 0], Value.agg #[Value.int IntKind.u64 ↑(lim t 0), Value.int IntKind.u64 ↑(lim t 1), Value.int IntKind.u64 ↑(lim t 2), Value.int IntKind.u64 ↑(lim t 3)], Value.int IntKind.i64 0, Value.int IntKind.i64 0, Value.bool false, undef, undef, Value.tuple #[Value.agg #[Value.int IntKind.u64 ↑(lim d 0), Value.int IntKind.u64 ↑(lim d 1), Value.int IntKind.u64 ↑(lim d 2), Value.int IntKind.u64 ↑(lim d 3)], Value.bool false], Value.agg #[Value.int IntKind.u64 ↑(lim t 0), Value.int IntKind.u64 ↑(lim t 1), Value.int IntKind.u64 ↑(lim t 2), Value.int IntKind.u64 ↑(lim t 3)], Value.agg #[Value.int IntKind.u64 ↑(lim 1 0), Value.int IntKind.u64 ↑(lim 1 1), Value.int IntKind.u64 ↑(lim 1 2), Value.int IntKind.u64 ↑(lim 1 3)], Value.tuple #[Value.agg #[Value.int IntKind.u64 ↑(lim d 0), Value.int IntKind.u64 ↑(lim d 1), Value.int IntKind.u64 ↑(lim d 2), Value.int IntKind.u64 ↑(lim d 3)], Value.bool false], Value.agg #[Value.int IntKind.u64 ↑(lim d 0), Value.int IntKind.u64 ↑(lim d 1), Value.int IntKind.u64 ↑(lim d 2), Value.int IntKind.u64 ↑(lim d 3)], Value.bool false, Value.bool false, undef, Value.tuple #[Value.agg #[Value.int IntKind.u64 ↑(lim m 0), Value.int IntKind.u64 ↑(lim m 1), Value.int IntKind.u64 ↑(lim m 2), Value.int IntKind.u64 ↑(lim m 3)], Value.bool v0], Value.agg #[Value.int IntKind.u64 0, Value.int IntKind.u64 0, Value.int IntKind.u64 0, Value.int IntKind.u64 0], Value.agg #[Value.int IntKind.u64 ↑(lim 1 0), Value.int IntKind.u64 ↑(lim 1 1), Value.int IntKind.u64 ↑(lim 1 2), Value.int IntKind.u64 ↑(lim 1 3)], Value.tuple #[Value.agg #[Value.int IntKind.u64 ↑(lim m 0), Value.int IntKind.u64 ↑(lim m 1), Value.int IntKind.u64 ↑(lim m 2), Value.int IntKind.u64 ↑(lim m 3)], Value.bool v0], Value.agg #[Value.int IntKind.u64 ↑(lim m 0), Value.int IntKind.u64 ↑(lim m 1), Value.int IntKind.u64 ↑(lim m 2), Value.int IntKind.u64 ↑(lim m 3)], Value.bool v0, Value.tuple #[Value.agg #[Value.int IntKind.u64 ↑(lim q 0), Value.int IntKind.u64 ↑(lim q 1), Value.int IntKind.u64 ↑(lim q 2), Value.int IntKind.u64 ↑(lim q 3)], Value.agg #[Value.int IntKind.u64 ↑(lim r 0), Value.int IntKind.u64 ↑(lim r 1), Value.int IntKind.u64 ↑(lim r 2), Value.int IntKind.u64 ↑(lim r 3)], Value.int IntKind.i64 er], Value.agg #[Value.int IntKind.u64 ↑(lim m 0), Value.int IntKind.u64 ↑(lim m 1), Value.int IntKind.u64 ↑(lim m 2), Value.int IntKind.u64 ↑(lim m 3)], Value.agg #[Value.int IntKind.u64 ↑(lim d 0), Value.int IntKind.u64 ↑(lim d 1), Value.int IntKind.u64 ↑(lim d 2), Value.int IntKind.u64 ↑(lim d 3)], Value.tuple #[Value.agg #[Value.int IntKind.u64 ↑(lim q 0), Value.int IntKind.u64 ↑(lim q 1), Value.int IntKind.u64 ↑(lim q 2), Value.int IntKind.u64 ↑(lim q 3)], Value.agg #[Value.int IntKind.u64 ↑(lim r 0), Value.int IntKind.u64 ↑(lim r 1), Value.int IntKind.u64 ↑(lim r 2), Value.int IntKind.u64 ↑(lim r 3)], Value.int IntKind.i64 er], Value.agg #[Value.int IntKind.u64 ↑(lim q 0), Value.int IntKind.u64 ↑(lim q 1), Value.int IntKind.u64 ↑(lim q 2), Value.int IntKind.u64 ↑(lim q 3)], Value.agg #[Value.int IntKind.u64 ↑(lim r 0), Value.int IntKind.u64 ↑(lim r 1), Value.int IntKind.u64 ↑(lim r 2), Value.int IntKind.u64 ↑(lim r 3)], Value.int IntKind.i64 er, x3, x0, x1, x2, x4, x5, undef, undef, undef, undef, undef, undef, undef, undef, undef, undef], []⟩ ∧ Nx w wr ∧ W.heap.size ≤ wr.heap.size ∧ Row wr gD #[.int .u64 (lim d 0 : Int), .int .u64 (lim d 1 : Int), .int .u64 (lim d 2 : Int), .int .u64 (lim d 3 : Int)] 24 ∧ Row wr gZ #[.int .u64 0, .int .u64 0, .int .u64 0, .int .u64 0] 24 ∧ Row wr g10 #[.int .u64 (lim q 0 : Int), .int .u64 (lim q 1 : Int), .int .u64 (lim q 2 : Int), .int .u64 (lim q 3 : Int)] 24 ∧ Row wr g11 #[.int .u64 (lim r 0 : Int), .int .u64 (lim r 1 : Int), .int .u64 (lim r 2 : Int), .int .u64 (lim r 3 : Int)] 24 ∧ (L 0 = true → x0 = .agg #[.int .u64 (lim d 0 : Int), .int .u64 (lim d 1 : Int), .int .u64 (lim d 2 : Int), .int .u64 (lim d 3 : Int)]) ∧ (L 1 = true → x1 = .agg #[.int .u64 (lim 1 0 : Int), .int .u64 (lim 1 1 : Int), .int .u64 (lim 1 2 : Int), .int .u64 (lim 1 3 : Int)]) ∧ (L 2 = true → x2 = .tuple #[.agg #[.int .u64 (lim l 0 : Int), .int .u64 (lim l 1 : Int), .int .u64 (lim l 2 : Int), .int .u64 (lim l 3 : Int)], .bool v2]) ∧ (L 3 = true → x3 = .tuple #[.agg #[.int .u64 (lim l 0 : Int), .int .u64 (lim l 1 : Int), .int .u64 (lim l 2 : Int), .int .u64 (lim l 3 : Int)], .bool v2]) ∧ (L 4 = true → x4 = .agg #[.int .u64 (lim l 0 : Int), .int .u64 (lim l 1 : Int), .int .u64 (lim l 2 : Int), .int .u64 (lim l 3 : Int)]) ∧ (L 5 = true → x5 = .bool v2) ∧ (L 6 = true → ∃ g, x6 = .pointer (some ⟨g, 0, none⟩) ∧ W.heap.size ≤ g ∧ Row wr g (if L 7 = true then #[.int .u64 (lim l 0 : Int), .int .u64 (lim l 1 : Int), .int .u64 (lim l 2 : Int), .int .u64 (lim l 3 : Int)] else #[.int .u64 0, .int .u64 0, .int .u64 0, .int .u64 0]) 24) ∧ (L 8 = true → x8 = .bool v2) ∧ (L 7 = true → L 6 = true)
def RWork11 (b t d m l q r u : Nat) (v0 v2 v3 : Bool) (er : Int) (gT gZ gD gM g10 g11 gL : Nat) (w W : World) (_u : Value) (L : Nat → Bool) (ac : Act) (wr : World) : Prop :=
  ∃ x0 x1 x2 x3 x4 x5 : Value, ac = ⟨#[Value.int IntKind.u32 ↑b, undef, Value.pointer (some { block := gZ, off := 0 }), Value.int IntKind.i64 0, Value.pointer (some { block := gT, off := 0 }), Value.int IntKind.i64 0, Value.pointer (some { block := gD, off := 0 }), Value.bool false, Value.pointer (some { block := gM, off := 0 }), Value.bool v0, Value.pointer (some { block := g10, off := 0 }), Value.pointer (some { block := g11, off := 0 }), Value.int IntKind.i64 er, Value.pointer (some { block := gL, off := 0 }), Value.bool v2, Value.tuple #[Value.agg #[Value.int IntKind.u64 ↑(lim t 0), Value.int IntKind.u64 ↑(lim t 1), Value.int IntKind.u64 ↑(lim t 2), Value.int IntKind.u64 ↑(lim t 3)], Value.int IntKind.i64 0], Value.int IntKind.u32 ↑b, Value.tuple #[Value.agg #[Value.int IntKind.u64 ↑(lim t 0), Value.int IntKind.u64 ↑(lim t 1), Value.int IntKind.u64 ↑(lim t 2), Value.int IntKind.u64 ↑(lim t 3)], Value.int IntKind.i64 0], Value.agg #[Value.int IntKind.u64 ↑(lim t 0), Value.int IntKind.u64 ↑(lim t 1), Value.int IntKind.u64 ↑(lim t 2), Value.int IntKind.u64 ↑(lim t 3)], Value.int IntKind.i64 0, Value.int IntKind.i64 0, Value.bool false, undef, undef, Value.tuple #[Value.agg #[Value.int IntKind.u64 ↑(lim d 0), Value.int IntKind.u64 ↑(lim d 1), Value.int IntKind.u64 ↑(lim d 2), Value.int IntKind.u64 ↑(lim d 3)], Value.bool false], Value.agg #[Value.int IntKind.u64 ↑(lim t 0), Value.int IntKind.u64 ↑(lim t 1), Value.int IntKind.u64 ↑(lim t 2), Value.int IntKind.u64 ↑(lim t 3)], Value.agg #[Value.int IntKind.u64 ↑(lim 1 0), Value.int IntKind.u64 ↑(lim 1 1), Value.int IntKind.u64 ↑(lim 1 2), Value.int IntKind.u64 ↑(lim 1 3)], Value.tuple #[Value.agg #[Value.int IntKind.u64 ↑(lim d 0), Value.int IntKind.u64 ↑(lim d 1), Value.int IntKind.u64 ↑(lim d 2), Value.int IntKind.u64 ↑(lim d 3)], Value.bool false], Value.agg #[Value.int IntKind.u64 ↑(lim d 0), Value.int IntKind.u64 ↑(lim d 1), Value.int IntKind.u64 ↑(lim d 2), Value.int IntKind.u64 ↑(lim d 3)], Value.bool false, Value.bool false, undef, Value.tuple #[Value.agg #[Value.int IntKind.u64 ↑(lim m 0), Value.int IntKind.u64 ↑(lim m 1), Value.int IntKind.u64 ↑(lim m 2), Value.int IntKind.u64 ↑(lim m 3)], Value.bool v0], Value.agg #[Value.int IntKind.u64 0, Value.int IntKind.u64 0, Value.int IntKind.u64 0, Value.int IntKind.u64 0], Value.agg #[Value.int IntKind.u64 ↑(lim 1 0), Value.int IntKind.u64 ↑(lim 1 1), Value.int IntKind.u64 ↑(lim 1 2), Value.int IntKind.u64 ↑(lim 1 3)], Value.tuple #[Value.agg #[Value.int IntKind.u64 ↑(lim m 0), Value.int IntKind.u64 ↑(lim m 1), Value.int IntKind.u64 ↑(lim m 2), Value.int IntKind.u64 ↑(lim m 3)], Value.bool v0], Value.agg #[Value.int IntKind.u64 ↑(lim m 0), Value.int IntKind.u64 ↑(lim m 1), Value.int IntKind.u64 ↑(lim m 2), Value.int IntKind.u64 ↑(lim m 3)], Value.bool v0, Value.tuple #[Value.agg #[Value.int IntKind.u64 ↑(lim q 0), Value.int IntKind.u64 ↑(lim q 1), Value.int IntKind.u64 ↑(lim q 2), Value.int IntKind.u64 ↑(lim q 3)], Value.agg #[Value.int IntKind.u64 ↑(lim r 0), Value.int IntKind.u64 ↑(lim r 1), Value.int IntKind.u64 ↑(lim r 2), Value.int IntKind.u64 ↑(lim r 3)], Value.int IntKind.i64 er], Value.agg #[Value.int IntKind.u64 ↑(lim m 0), Value.int IntKind.u64 ↑(lim m 1), Value.int IntKind.u64 ↑(lim m 2), Value.int IntKind.u64 ↑(lim m 3)], Value.agg #[Value.int IntKind.u64 ↑(lim d 0), Value.int IntKind.u64 ↑(lim d 1), Value.int IntKind.u64 ↑(lim d 2), Value.int IntKind.u64 ↑(lim d 3)], Value.tuple #[Value.agg #[Value.int IntKind.u64 ↑(lim q 0), Value.int IntKind.u64 ↑(lim q 1), Value.int IntKind.u64 ↑(lim q 2), Value.int IntKind.u64 ↑(lim q 3)], Value.agg #[Value.int IntKind.u64 ↑(lim r 0), Value.int IntKind.u64 ↑(lim r 1), Value.int IntKind.u64 ↑(lim r 2), Value.int IntKind.u64 ↑(lim r 3)], Value.int IntKind.i64 er], Value.agg #[Value.int IntKind.u64 ↑(lim q 0), Value.int IntKind.u64 ↑(lim q 1), Value.int IntKind.u64 ↑(lim q 2), Value.int IntKind.u64 ↑(lim q 3)], Value.agg #[Value.int IntKind.u64 ↑(lim r 0), Value.int IntKind.u64 ↑(lim r 1), Value.int IntKind.u64 ↑(lim r 2), Value.int IntKind.u64 ↑(lim r 3)], Value.int IntKind.i64 er, Value.tuple #[Value.agg #[Value.int IntKind.u64 ↑(lim l 0), Value.int IntKind.u64 ↑(lim l 1), Value.int IntKind.u64 ↑(lim l 2), Value.int IntKind.u64 ↑(lim l 3)], Value.bool v2], Value.agg #[Value.int IntKind.u64 ↑(lim d 0), Value.int IntKind.u64 ↑(lim d 1), Value.int IntKind.u64 ↑(lim d 2), Value.int IntKind.u64 ↑(lim d 3)], Value.agg #[Value.int IntKind.u64 ↑(lim 1 0), Value.int IntKind.u64 ↑(lim 1 1), Value.int IntKind.u64 ↑(lim 1 2), Value.int IntKind.u64 ↑(lim 1 3)], Value.tuple #[Value.agg #[Value.int IntKind.u64 ↑(lim l 0), Value.int IntKind.u64 ↑(lim l 1), Value.int IntKind.u64 ↑(lim l 2), Value.int IntKind.u64 ↑(lim l 3)], Value.bool v2], Value.agg #[Value.int IntKind.u64 ↑(lim l 0), Value.int IntKind.u64 ↑(lim l 1), Value.int IntKind.u64 ↑(lim l 2), Value.int IntKind.u64 ↑(lim l 3)], Value.bool v2, Value.agg #[Value.int IntKind.u64 ↑(lim r 0), Value.int IntKind.u64 ↑(lim r 1), Value.int IntKind.u64 ↑(lim r 2), Value.int IntKind.u64 ↑(lim r 3)], Value.agg #[Value.int IntKind.u64 ↑(lim l 0), Value.int IntKind.u64 ↑(lim l 1), Value.int IntKind.u64 ↑(lim l 2), Value.int IntKind.u64 ↑(lim l 3)], Value.bool true, x3, x0, x1, x2, x4, x5, undef], []⟩ ∧ Nx w wr ∧ W.heap.size ≤ wr.heap.size ∧ Row wr g10 (if L 6 = true then #[.int .u64 (lim u 0 : Int), .int .u64 (lim u 1 : Int), .int .u64 (lim u 2 : Int), .int .u64 (lim u 3 : Int)] else #[.int .u64 (lim q 0 : Int), .int .u64 (lim q 1 : Int), .int .u64 (lim q 2 : Int), .int .u64 (lim q 3 : Int)]) 24 ∧ Row wr gZ #[.int .u64 0, .int .u64 0, .int .u64 0, .int .u64 0] 24 ∧ (L 0 = true → x0 = .agg #[.int .u64 (lim q 0 : Int), .int .u64 (lim q 1 : Int), .int .u64 (lim q 2 : Int), .int .u64 (lim q 3 : Int)]) ∧ (L 1 = true → x1 = .agg #[.int .u64 (lim 1 0 : Int), .int .u64 (lim 1 1 : Int), .int .u64 (lim 1 2 : Int), .int .u64 (lim 1 3 : Int)]) ∧ (L 2 = true → x2 = .tuple #[.agg #[.int .u64 (lim u 0 : Int), .int .u64 (lim u 1 : Int), .int .u64 (lim u 2 : Int), .int .u64 (lim u 3 : Int)], .bool v3]) ∧ (L 3 = true → x3 = .tuple #[.agg #[.int .u64 (lim u 0 : Int), .int .u64 (lim u 1 : Int), .int .u64 (lim u 2 : Int), .int .u64 (lim u 3 : Int)], .bool v3]) ∧ (L 4 = true → x4 = .agg #[.int .u64 (lim u 0 : Int), .int .u64 (lim u 1 : Int), .int .u64 (lim u 2 : Int), .int .u64 (lim u 3 : Int)]) ∧ (L 5 = true → x5 = .bool v3) ∧ (L 6 = true → L 0 = true)

set_option maxHeartbeats 2000000 in
set_option maxRecDepth 100000 in
theorem refTWork_no (b : Nat) (w : World) (hb : (b : Int) ≤ 4294967295) (h : ofE b = 5) :
    Calls Try.prog 43 #[.int .u32 (b : Int)] w fun e w' => e = .returned (.tuple #[.agg #[.int .u64 0, .int .u64 0, .int .u64 0, .int .u64 0], .int .i64 5]) ∧ Nx w w' := by
  have HO := Lib.hid (fun w => refTOf_any b w hb)
  rw [h] at HO
  clear h
  generalize ofT b = t at *
  go_enter Try.func43, Try.ntmps43
  go_wp2_with fail
  refine (HO.out _).mono ?_
  rintro e w1 ⟨rfl, hb1⟩
  have RZ := ((Row.new w #[.int .u64 0, .int .u64 0, .int .u64 0, .int .u64 0] 24 _ rfl).nx hb1).alloc (.cells #[.int .u64 (lim t 0 : Int), .int .u64 (lim t 1 : Int), .int .u64 (lim t 2 : Int), .int .u64 (lim t 3 : Int)] 24)
  have N1 := Lib.hid ((((Nx.refl w).alloc (.cells #[.int .u64 0, .int .u64 0, .int .u64 0, .int .u64 0] 24)).trans hb1).alloc (.cells #[.int .u64 (lim t 0 : Int), .int .u64 (lim t 1 : Int), .int .u64 (lim t 2 : Int), .int .u64 (lim t 3 : Int)] 24))
  clear hb1
  obtain ⟨z0, z1, z2, z3⟩ := RZ.zero4
  have fz := RZ.frozen
  go_wp2
  exact bodyPost_ret (v := .tuple #[.agg #[.int .u64 0, .int .u64 0, .int .u64 0, .int .u64 0], .int .i64 5]) (by simp [results, Try.results43, go_sem, z0, z1, z2, z3, fz]) rfl
    ⟨rfl, by repeat (first | with_reducible exact N1.out | with_reducible refine Nx.setAt ?_ _ (by omega))⟩

set_option maxHeartbeats 8000000 in
set_option maxRecDepth 100000 in
theorem refTWork_yes (b : Nat) (w : World) (hb : (b : Int) ≤ 4294967295) (h : ofE b = 0) :
    Calls Try.prog 43 #[.int .u32 (b : Int)] w fun e w' => e = .returned (.tuple #[.agg #[.int .u64 (lim (workN (ofT b)) 0 : Int), .int .u64 (lim (workN (ofT b)) 1 : Int), .int .u64 (lim (workN (ofT b)) 2 : Int), .int .u64 (lim (workN (ofT b)) 3 : Int)], .int .i64 0]) ∧ Nx w w' := by
  have HO := Lib.hid (fun w => refTOf_any b w hb)
  have h0 := ofT_pos b h
  rw [h] at HO
  clear h
  have ht := ofT_lt b
  generalize ofT b = t at *
  have hd := addN_lt t 1
  have hm : subN 0 1 < top := subN_lt (show 0 < top by decide) (show 1 < top by decide)
  have hq : overQ (subN 0 1) (addN t 1) < top := by
    unfold overQ
    split
    · decide
    · exact Nat.lt_of_le_of_lt (Nat.div_le_self _ _) hm
  have hr : overR (subN 0 1) (addN t 1) < top := by
    unfold overR
    split
    · decide
    · exact Nat.lt_of_le_of_lt (Nat.mod_le _ _) hm
  have HLAST := Lib.hid (fun h => work_last t ht h h0)
  have HREF := Lib.hid (fun h => work_ref t ht h h0)
  have HADD := Lib.hid (fun w => refAdd_n t 1 w ht (by decide))
  have HM := Lib.hid refSub_01
  have HOV := Lib.hid (fun w => refOver_any (subN 0 1) (addN t 1) w hm hd)
  have HSUB := Lib.hid (fun w => refSub_n (addN t 1) 1 w hd (by decide))
  have hl : subN (addN t 1) 1 < top := subN_lt hd (by decide)
  have HEQ := Lib.hid (fun w => eqU (overR (subN 0 1) (addN t 1)) (subN (addN t 1) 1) hr hl w)
  have HADD2 := Lib.hid (fun w => refAdd_n (overQ (subN 0 1) (addN t 1)) 1 w hq (by decide))
  clear hd hl hq ht hm hr h0
  generalize addB (overQ (subN 0 1) (addN t 1)) 1 = v3 at *
  generalize addN (overQ (subN 0 1) (addN t 1)) 1 = u at *
  generalize workN t = R at *
  generalize overQ (subN 0 1) (addN t 1) = q at *
  generalize overR (subN 0 1) (addN t 1) = r at *
  generalize overE (addN t 1) = er at *
  generalize subB (addN t 1) 1 = v2 at *
  generalize subN (addN t 1) 1 = l at *
  generalize subN 0 1 = m at *
  generalize subB 0 1 = v0 at *
  generalize addB t 1 = v1 at *
  generalize addN t 1 = d at *
  go_enter Try.func43, Try.ntmps43
  go_wp2_with fail
  refine (HO.out _).mono ?_
  rintro e w1 ⟨rfl, hb1⟩
  have K10 := ((Row.new w #[.int .u64 0, .int .u64 0, .int .u64 0, .int .u64 0] 24 _ rfl).nx hb1).alloc (.cells #[.int .u64 (lim t 0 : Int), .int .u64 (lim t 1 : Int), .int .u64 (lim t 2 : Int), .int .u64 (lim t 3 : Int)] 24)
  have K00 : Row (w1.alloc (.cells #[.int .u64 (lim t 0 : Int), .int .u64 (lim t 1 : Int), .int .u64 (lim t 2 : Int), .int .u64 (lim t 3 : Int)] 24)) w1.heap.size #[.int .u64 (lim t 0 : Int), .int .u64 (lim t 1 : Int), .int .u64 (lim t 2 : Int), .int .u64 (lim t 3 : Int)] 24 := Row.new w1 _ _ _ rfl
  have HN0 := Lib.hid ((((Nx.refl w).alloc (.cells #[.int .u64 0, .int .u64 0, .int .u64 0, .int .u64 0] 24)).trans hb1).alloc (.cells #[.int .u64 (lim t 0 : Int), .int .u64 (lim t 1 : Int), .int .u64 (lim t 2 : Int), .int .u64 (lim t 3 : Int)] 24))
  clear hb1 HO
  go_wp2_with fail
  generalize w1.heap.size = gT at *
  generalize (w1.alloc (.cells #[.int .u64 (lim t 0 : Int), .int .u64 (lim t 1 : Int), .int .u64 (lim t 2 : Int), .int .u64 (lim t 3 : Int)] 24)) = W at *
  obtain ⟨gZ, hgZ⟩ : ∃ gZ, w.heap.size = gZ := ⟨_, rfl⟩
  have HG1 := Lib.hid (show w.heap.size ≤ gZ by omega)
  have HWZ := Lib.hid (show gZ < W.heap.size by rw [← hgZ]; exact K10.lt)
  rw [hgZ] at K10 ⊢
  clear hgZ
  have HW0 := HN0.out.size
  have HK0 := K00.lt
  have HK1 := K10.lt
  refine wp_region_inv [[], [], [0, 1, 1], [2], [3], [3], [], [6, 4, 2, 0, 1, 2, 3, 4, 6], [5, 7, 0, 1, 2, 3, 4, 5, 6, 7]] (RWork4 b t d v1 gT gZ w W undef) (by kernel_rfl) (by kernel_rfl) (hord_of (by decide)) ?_ ?_ ?_
  · exact ⟨_, _, _, _, _, _, _, _, rfl, HN0.out.drew, Nat.le_refl _, K00.drew, K10.drew, (fun h => by cases h), (fun h => by cases h), (fun h => by cases h), (fun h => by cases h), (fun h => by cases h), (fun h => by cases h), (fun h => by cases h), (fun h => by cases h), (fun h => by cases h)⟩
  · rintro L ac wr ⟨x0, x1, x2, x3, x4, x5, x6, x8, rfl, HN, HZ, K0, K1, F0, F1, F2, F3, F4, F5, F6, F8, S7⟩ i hi hL hd K hK
    have hi' : i < 9 := hi
    have hcs : i = 0 ∨ i = 1 ∨ i = 2 ∨ i = 3 ∨ i = 4 ∨ i = 5 ∨ i = 6 ∨ i = 7 ∨ i = 8 := by omega
    clear hi hi'
    rcases hcs with rfl | rfl | rfl | rfl | rfl | rfl | rfl | rfl | rfl
    · refine wpOp_of rfl rfl (wp_load_row 24 (.tmp 4) rfl gT rfl 24 #[.int .u64 (lim t 0 : Int), .int .u64 (lim t 1 : Int), .int .u64 (lim t 2 : Int), .int .u64 (lim t 3 : Int)] (0, 0) _ K0 Try.underlying24 rfl (hsU t) (hK _ _ ?_))
      exact ⟨_, x1, x2, x3, x4, x5, x6, x8, rfl, HN, HZ, K0, K1, (fun _ => rfl), F1, F2, F3, F4, F5, F6, F8, S7⟩
    · refine wpOp_of rfl rfl (wp_call_of (some 26) rfl 16 #[.int .u64 1] (by kernel_rfl) _ (refOf_1 wr) (fun w' hn => hK _ _ ?_))
      exact ⟨x0, _, x2, x3, x4, x5, x6, x8, rfl, HN.trans hn, Nat.le_trans HZ hn.size, K0.nx hn, K1.nx hn, F0, (fun _ => rfl), F2, F3, F4, F5, (fun h => by obtain ⟨g, e, hg, r⟩ := F6 h; exact ⟨g, e, hg, r.nx hn⟩), F8, S7⟩
    · have e0 := F0 (hd 0 (by decide))
      subst e0
      have e1 := F1 (hd 1 (by decide))
      subst e1
      refine wpOp_of rfl rfl (wp_call_of (some 27) rfl 27 #[.agg #[.int .u64 (lim t 0 : Int), .int .u64 (lim t 1 : Int), .int .u64 (lim t 2 : Int), .int .u64 (lim t 3 : Int)], .agg #[.int .u64 (lim 1 0 : Int), .int .u64 (lim 1 1 : Int), .int .u64 (lim 1 2 : Int), .int .u64 (lim 1 3 : Int)]] (by kernel_rfl) _ (HADD.out wr) (fun w' hn => hK _ _ ?_))
      exact ⟨_, _, _, x3, x4, x5, x6, x8, rfl, HN.trans hn, Nat.le_trans HZ hn.size, K0.nx hn, K1.nx hn, F0, F1, (fun _ => rfl), F3, F4, F5, (fun h => by obtain ⟨g, e, hg, r⟩ := F6 h; exact ⟨g, e, hg, r.nx hn⟩), F8, S7⟩
    · have e2 := F2 (hd 2 (by decide))
      subst e2
      refine wpOp_of rfl rfl (wp_val_of (some 24) rfl (.tuple #[.agg #[.int .u64 (lim d 0 : Int), .int .u64 (lim d 1 : Int), .int .u64 (lim d 2 : Int), .int .u64 (lim d 3 : Int)], .bool v1]) (by kernel_rfl) (hK _ _ ?_))
      exact ⟨x0, x1, _, _, x4, x5, x6, x8, rfl, HN, HZ, K0, K1, F0, F1, F2, (fun _ => rfl), F4, F5, F6, F8, S7⟩
    · have e3 := F3 (hd 3 (by decide))
      subst e3
      refine wpOp_of rfl rfl (wp_val_of (some 28) rfl (.agg #[.int .u64 (lim d 0 : Int), .int .u64 (lim d 1 : Int), .int .u64 (lim d 2 : Int), .int .u64 (lim d 3 : Int)]) (by kernel_rfl) (hK _ _ ?_))
      exact ⟨x0, x1, x2, _, _, x5, x6, x8, rfl, HN, HZ, K0, K1, F0, F1, F2, F3, (fun _ => rfl), F5, F6, F8, S7⟩
    · have e3 := F3 (hd 3 (by decide))
      subst e3
      refine wpOp_of rfl rfl (wp_val_of (some 29) rfl (.bool v1) (by kernel_rfl) (hK _ _ ?_))
      exact ⟨x0, x1, x2, _, x4, _, x6, x8, rfl, HN, HZ, K0, K1, F0, F1, F2, F3, F4, (fun _ => rfl), F6, F8, S7⟩
    · have hs : L 7 = false := by
          rcases h : L 7 with _ | _
          · rfl
          · rw [S7 h] at hL; cases hL
      refine wpOp_of rfl rfl (wp_alloc_of (some 6) rfl 24 rfl (#[.int .u64 0, .int .u64 0, .int .u64 0, .int .u64 0]) hzU (hK _ _ ?_))
      exact ⟨x0, x1, x2, x3, x4, x5, _, x8, rfl, HN.alloc _, Nat.le_trans HZ (by rw [alloc_size]; exact Nat.le_succ _), K0.alloc _, K1.alloc _, F0, F1, F2, F3, F4, F5, (fun _ => ⟨_, rfl, HZ, by show Row _ _ (if L 7 = true then _ else _) _; rw [hs]; exact Row.new _ _ _ _ rfl⟩), F8, (fun _ => rfl)⟩
    · have e4 := F4 (hd 4 (by decide))
      subst e4
      obtain ⟨ga, ea, hga, ra⟩ := F6 (hd 6 (by decide))
      subst ea
      rw [if_neg (by rw [hL]; decide)] at ra
      refine wpOp_of rfl rfl (wp_store_row 24 (.tmp 6) (.tmp 28) rfl ga (#[.int .u64 (lim d 0 : Int), .int .u64 (lim d 1 : Int), .int .u64 (lim d 2 : Int), .int .u64 (lim d 3 : Int)]) rfl rfl 24 (#[.int .u64 0, .int .u64 0, .int .u64 0, .int .u64 0]) ra (hsU d) rfl (oneU d) (hK _ _ ?_))
      exact ⟨x0, x1, x2, x3, _, x5, _, x8, rfl, HN.setRow _ (Nat.le_trans HW0 hga), (by rw [size_setRow]; exact HZ), K0.setRow_other _ (Nat.ne_of_lt (Nat.lt_of_lt_of_le HK0 hga)), K1.setRow_other _ (Nat.ne_of_lt (Nat.lt_of_lt_of_le HK1 hga)), F0, F1, F2, F3, F4, F5, (fun _ => ⟨ga, rfl, hga, ra.setRow _⟩), F8, (fun _ => hd 6 (by decide))⟩
    · have e5 := F5 (hd 5 (by decide))
      subst e5
      refine wpOp_of rfl rfl (wp_val_of (some 7) rfl (.bool v1) (by kernel_rfl) (hK _ _ ?_))
      exact ⟨x0, x1, x2, x3, x4, _, x6, _, rfl, HN, HZ, K0, K1, F0, F1, F2, F3, F4, F5, F6, (fun _ => rfl), S7⟩
  · rintro L ac wr ⟨x0, x1, x2, x3, x4, x5, x6, x8, rfl, HN, HZ, K0, K1, F0, F1, F2, F3, F4, F5, F6, F8, S7⟩ hall
    have hall' : ∀ i, i < 9 → L i = true := hall
    have e0 := F0 (hall' 0 (by decide))
    have e1 := F1 (hall' 1 (by decide))
    have e2 := F2 (hall' 2 (by decide))
    have e3 := F3 (hall' 3 (by decide))
    have e4 := F4 (hall' 4 (by decide))
    have e5 := F5 (hall' 5 (by decide))
    obtain ⟨g6, e6, hg6, r6⟩ := F6 (hall' 6 (by decide))
    have e8 := F8 (hall' 8 (by decide))
    rw [if_pos (hall' 7 (by decide))] at r6
    subst e0 e1 e2 e3 e4 e5 e6 e8
    clear F0 F1 F2 F3 F4 F5 F6 F8 S7 hall hall'
    have HN0 := Lib.hid HN
    have RZ := K1
    have RD := r6
    have HDZ := Lib.hid (Nat.lt_of_lt_of_le HK1 hg6)
    clear K0 K1 HN HZ HADD HK0 HK1 HW0 hg6 K00 K10
    generalize g6 = gD at *
    rcases v1 with _ | _
    · replace HREF := Lib.hid (HREF.out rfl)
      go_wp2_with fail
      refine (refOf_0 _).mono ?_
      rintro e wa ⟨rfl, hba⟩
      go_wp2_with fail
      refine (refOf_1 _).mono ?_
      rintro e wb ⟨rfl, hbb⟩
      go_wp2_with fail
      refine (HM.out _).mono ?_
      rintro e wc ⟨rfl, hbc⟩
      replace HN0 := Lib.hid ((((HN0.out.trans hba).trans hbb).trans hbc).alloc (.cells #[.int .u64 (lim m 0 : Int), .int .u64 (lim m 1 : Int), .int .u64 (lim m 2 : Int), .int .u64 (lim m 3 : Int)] 24))
      replace RZ := (((RZ.nx hba).nx hbb).nx hbc).alloc (.cells #[.int .u64 (lim m 0 : Int), .int .u64 (lim m 1 : Int), .int .u64 (lim m 2 : Int), .int .u64 (lim m 3 : Int)] 24)
      replace RD := (((RD.nx hba).nx hbb).nx hbc).alloc (.cells #[.int .u64 (lim m 0 : Int), .int .u64 (lim m 1 : Int), .int .u64 (lim m 2 : Int), .int .u64 (lim m 3 : Int)] 24)
      have RM : Row (wc.alloc (.cells #[.int .u64 (lim m 0 : Int), .int .u64 (lim m 1 : Int), .int .u64 (lim m 2 : Int), .int .u64 (lim m 3 : Int)] 24)) wc.heap.size #[.int .u64 (lim m 0 : Int), .int .u64 (lim m 1 : Int), .int .u64 (lim m 2 : Int), .int .u64 (lim m 3 : Int)] 24 := Row.new wc _ _ _ rfl
      clear hba hbb hbc HM
      obtain ⟨m0, m1, m2, m3⟩ := RM.four
      obtain ⟨d0, d1, d2, d3⟩ := RD.four
      go_wp2_with fail
      generalize wc.heap.size = gM at *
      generalize (wc.alloc (.cells #[.int .u64 (lim m 0 : Int), .int .u64 (lim m 1 : Int), .int .u64 (lim m 2 : Int), .int .u64 (lim m 3 : Int)] 24)) = W5 at *
      refine (HOV.out _).mono ?_
      rintro e w2 ⟨rfl, hb2⟩
      clear m0 m1 m2 m3 d0 d1 d2 d3 RM
      have K00 := ((RD.nx hb2).alloc (.cells #[.int .u64 (lim q 0 : Int), .int .u64 (lim q 1 : Int), .int .u64 (lim q 2 : Int), .int .u64 (lim q 3 : Int)] 24)).alloc (.cells #[.int .u64 (lim r 0 : Int), .int .u64 (lim r 1 : Int), .int .u64 (lim r 2 : Int), .int .u64 (lim r 3 : Int)] 24)
      have K10 := ((RZ.nx hb2).alloc (.cells #[.int .u64 (lim q 0 : Int), .int .u64 (lim q 1 : Int), .int .u64 (lim q 2 : Int), .int .u64 (lim q 3 : Int)] 24)).alloc (.cells #[.int .u64 (lim r 0 : Int), .int .u64 (lim r 1 : Int), .int .u64 (lim r 2 : Int), .int .u64 (lim r 3 : Int)] 24)
      have K20 : Row ((w2.alloc (.cells #[.int .u64 (lim q 0 : Int), .int .u64 (lim q 1 : Int), .int .u64 (lim q 2 : Int), .int .u64 (lim q 3 : Int)] 24)).alloc (.cells #[.int .u64 (lim r 0 : Int), .int .u64 (lim r 1 : Int), .int .u64 (lim r 2 : Int), .int .u64 (lim r 3 : Int)] 24)) w2.heap.size #[.int .u64 (lim q 0 : Int), .int .u64 (lim q 1 : Int), .int .u64 (lim q 2 : Int), .int .u64 (lim q 3 : Int)] 24 := (Row.new w2 _ _ _ rfl).alloc _
      have K30 : Row ((w2.alloc (.cells #[.int .u64 (lim q 0 : Int), .int .u64 (lim q 1 : Int), .int .u64 (lim q 2 : Int), .int .u64 (lim q 3 : Int)] 24)).alloc (.cells #[.int .u64 (lim r 0 : Int), .int .u64 (lim r 1 : Int), .int .u64 (lim r 2 : Int), .int .u64 (lim r 3 : Int)] 24)) (w2.heap.size + 1) #[.int .u64 (lim r 0 : Int), .int .u64 (lim r 1 : Int), .int .u64 (lim r 2 : Int), .int .u64 (lim r 3 : Int)] 24 := Row.new2 w2 _ _ _
      have HNE := Lib.hid (Nat.ne_of_lt (RZ.nx hb2).lt)
      have HG10 := Lib.hid (HN0.out.trans hb2).size
      replace HN0 := Lib.hid (((HN0.out.trans hb2).alloc (.cells #[.int .u64 (lim q 0 : Int), .int .u64 (lim q 1 : Int), .int .u64 (lim q 2 : Int), .int .u64 (lim q 3 : Int)] 24)).alloc (.cells #[.int .u64 (lim r 0 : Int), .int .u64 (lim r 1 : Int), .int .u64 (lim r 2 : Int), .int .u64 (lim r 3 : Int)] 24))
      clear hb2 HOV RZ RD
      go_wp2_with fail
      generalize w2.heap.size + 1 = g11 at *
      generalize w2.heap.size = g10 at *
      generalize ((w2.alloc (.cells #[.int .u64 (lim q 0 : Int), .int .u64 (lim q 1 : Int), .int .u64 (lim q 2 : Int), .int .u64 (lim q 3 : Int)] 24)).alloc (.cells #[.int .u64 (lim r 0 : Int), .int .u64 (lim r 1 : Int), .int .u64 (lim r 2 : Int), .int .u64 (lim r 3 : Int)] 24)) = W at *
      have HW0 := HN0.out.size
      have HK0 := K00.lt
      have HK1 := K10.lt
      have HK2 := K20.lt
      have HK3 := K30.lt
      refine wp_region_inv [[], [], [0, 1, 1], [2], [3], [3], [], [6, 4, 2, 0, 1, 2, 3, 4, 6], [5, 7, 0, 1, 2, 3, 4, 5, 6, 7]] (RWork9 b t d m l q r v0 v2 er gT gZ gD gM g10 g11 w W undef) (by kernel_rfl) (by kernel_rfl) (hord_of (by decide)) ?_ ?_ ?_
      · exact ⟨_, _, _, _, _, _, _, _, rfl, HN0.out.drew, Nat.le_refl _, K00.drew, K10.drew, K20.drew, K30.drew, (fun h => by cases h), (fun h => by cases h), (fun h => by cases h), (fun h => by cases h), (fun h => by cases h), (fun h => by cases h), (fun h => by cases h), (fun h => by cases h), (fun h => by cases h)⟩
      · rintro L ac wr ⟨x0, x1, x2, x3, x4, x5, x6, x8, rfl, HN, HZ, K0, K1, K2, K3, F0, F1, F2, F3, F4, F5, F6, F8, S7⟩ i hi hL hd K hK
        have hi' : i < 9 := hi
        have hcs : i = 0 ∨ i = 1 ∨ i = 2 ∨ i = 3 ∨ i = 4 ∨ i = 5 ∨ i = 6 ∨ i = 7 ∨ i = 8 := by omega
        clear hi hi'
        rcases hcs with rfl | rfl | rfl | rfl | rfl | rfl | rfl | rfl | rfl
        · refine wpOp_of rfl rfl (wp_load_row 24 (.tmp 6) rfl gD rfl 24 #[.int .u64 (lim d 0 : Int), .int .u64 (lim d 1 : Int), .int .u64 (lim d 2 : Int), .int .u64 (lim d 3 : Int)] (0, 0) _ K0 Try.underlying24 rfl (hsU d) (hK _ _ ?_))
          exact ⟨_, x1, x2, x3, x4, x5, x6, x8, rfl, HN, HZ, K0, K1, K2, K3, (fun _ => rfl), F1, F2, F3, F4, F5, F6, F8, S7⟩
        · refine wpOp_of rfl rfl (wp_call_of (some 47) rfl 16 #[.int .u64 1] (by kernel_rfl) _ (refOf_1 wr) (fun w' hn => hK _ _ ?_))
          exact ⟨x0, _, x2, x3, x4, x5, x6, x8, rfl, HN.trans hn, Nat.le_trans HZ hn.size, K0.nx hn, K1.nx hn, K2.nx hn, K3.nx hn, F0, (fun _ => rfl), F2, F3, F4, F5, (fun h => by obtain ⟨g, e, hg, r⟩ := F6 h; exact ⟨g, e, hg, r.nx hn⟩), F8, S7⟩
        · have e0 := F0 (hd 0 (by decide))
          subst e0
          have e1 := F1 (hd 1 (by decide))
          subst e1
          refine wpOp_of rfl rfl (wp_call_of (some 48) rfl 29 #[.agg #[.int .u64 (lim d 0 : Int), .int .u64 (lim d 1 : Int), .int .u64 (lim d 2 : Int), .int .u64 (lim d 3 : Int)], .agg #[.int .u64 (lim 1 0 : Int), .int .u64 (lim 1 1 : Int), .int .u64 (lim 1 2 : Int), .int .u64 (lim 1 3 : Int)]] (by kernel_rfl) _ (HSUB.out wr) (fun w' hn => hK _ _ ?_))
          exact ⟨_, _, _, x3, x4, x5, x6, x8, rfl, HN.trans hn, Nat.le_trans HZ hn.size, K0.nx hn, K1.nx hn, K2.nx hn, K3.nx hn, F0, F1, (fun _ => rfl), F3, F4, F5, (fun h => by obtain ⟨g, e, hg, r⟩ := F6 h; exact ⟨g, e, hg, r.nx hn⟩), F8, S7⟩
        · have e2 := F2 (hd 2 (by decide))
          subst e2
          refine wpOp_of rfl rfl (wp_val_of (some 45) rfl (.tuple #[.agg #[.int .u64 (lim l 0 : Int), .int .u64 (lim l 1 : Int), .int .u64 (lim l 2 : Int), .int .u64 (lim l 3 : Int)], .bool v2]) (by kernel_rfl) (hK _ _ ?_))
          exact ⟨x0, x1, _, _, x4, x5, x6, x8, rfl, HN, HZ, K0, K1, K2, K3, F0, F1, F2, (fun _ => rfl), F4, F5, F6, F8, S7⟩
        · have e3 := F3 (hd 3 (by decide))
          subst e3
          refine wpOp_of rfl rfl (wp_val_of (some 49) rfl (.agg #[.int .u64 (lim l 0 : Int), .int .u64 (lim l 1 : Int), .int .u64 (lim l 2 : Int), .int .u64 (lim l 3 : Int)]) (by kernel_rfl) (hK _ _ ?_))
          exact ⟨x0, x1, x2, _, _, x5, x6, x8, rfl, HN, HZ, K0, K1, K2, K3, F0, F1, F2, F3, (fun _ => rfl), F5, F6, F8, S7⟩
        · have e3 := F3 (hd 3 (by decide))
          subst e3
          refine wpOp_of rfl rfl (wp_val_of (some 50) rfl (.bool v2) (by kernel_rfl) (hK _ _ ?_))
          exact ⟨x0, x1, x2, _, x4, _, x6, x8, rfl, HN, HZ, K0, K1, K2, K3, F0, F1, F2, F3, F4, (fun _ => rfl), F6, F8, S7⟩
        · have hs : L 7 = false := by
              rcases h : L 7 with _ | _
              · rfl
              · rw [S7 h] at hL; cases hL
          refine wpOp_of rfl rfl (wp_alloc_of (some 13) rfl 24 rfl (#[.int .u64 0, .int .u64 0, .int .u64 0, .int .u64 0]) hzU (hK _ _ ?_))
          exact ⟨x0, x1, x2, x3, x4, x5, _, x8, rfl, HN.alloc _, Nat.le_trans HZ (by rw [alloc_size]; exact Nat.le_succ _), K0.alloc _, K1.alloc _, K2.alloc _, K3.alloc _, F0, F1, F2, F3, F4, F5, (fun _ => ⟨_, rfl, HZ, by show Row _ _ (if L 7 = true then _ else _) _; rw [hs]; exact Row.new _ _ _ _ rfl⟩), F8, (fun _ => rfl)⟩
        · have e4 := F4 (hd 4 (by decide))
          subst e4
          obtain ⟨ga, ea, hga, ra⟩ := F6 (hd 6 (by decide))
          subst ea
          rw [if_neg (by rw [hL]; decide)] at ra
          refine wpOp_of rfl rfl (wp_store_row 24 (.tmp 13) (.tmp 49) rfl ga (#[.int .u64 (lim l 0 : Int), .int .u64 (lim l 1 : Int), .int .u64 (lim l 2 : Int), .int .u64 (lim l 3 : Int)]) rfl rfl 24 (#[.int .u64 0, .int .u64 0, .int .u64 0, .int .u64 0]) ra (hsU l) rfl (oneU l) (hK _ _ ?_))
          exact ⟨x0, x1, x2, x3, _, x5, _, x8, rfl, HN.setRow _ (Nat.le_trans HW0 hga), (by rw [size_setRow]; exact HZ), K0.setRow_other _ (Nat.ne_of_lt (Nat.lt_of_lt_of_le HK0 hga)), K1.setRow_other _ (Nat.ne_of_lt (Nat.lt_of_lt_of_le HK1 hga)), K2.setRow_other _ (Nat.ne_of_lt (Nat.lt_of_lt_of_le HK2 hga)), K3.setRow_other _ (Nat.ne_of_lt (Nat.lt_of_lt_of_le HK3 hga)), F0, F1, F2, F3, F4, F5, (fun _ => ⟨ga, rfl, hga, ra.setRow _⟩), F8, (fun _ => hd 6 (by decide))⟩
        · have e5 := F5 (hd 5 (by decide))
          subst e5
          refine wpOp_of rfl rfl (wp_val_of (some 14) rfl (.bool v2) (by kernel_rfl) (hK _ _ ?_))
          exact ⟨x0, x1, x2, x3, x4, _, x6, _, rfl, HN, HZ, K0, K1, K2, K3, F0, F1, F2, F3, F4, F5, F6, (fun _ => rfl), S7⟩
      · rintro L ac wr ⟨x0, x1, x2, x3, x4, x5, x6, x8, rfl, HN, HZ, K0, K1, K2, K3, F0, F1, F2, F3, F4, F5, F6, F8, S7⟩ hall
        have hall' : ∀ i, i < 9 → L i = true := hall
        have e0 := F0 (hall' 0 (by decide))
        have e1 := F1 (hall' 1 (by decide))
        have e2 := F2 (hall' 2 (by decide))
        have e3 := F3 (hall' 3 (by decide))
        have e4 := F4 (hall' 4 (by decide))
        have e5 := F5 (hall' 5 (by decide))
        obtain ⟨g6, e6, hg6, r6⟩ := F6 (hall' 6 (by decide))
        have e8 := F8 (hall' 8 (by decide))
        rw [if_pos (hall' 7 (by decide))] at r6
        subst e0 e1 e2 e3 e4 e5 e6 e8
        clear F0 F1 F2 F3 F4 F5 F6 F8 S7 hall hall'
        have HN0 := Lib.hid HN
        have RZ := K1
        have RQ := K2
        obtain ⟨x0, x1, x2, x3⟩ := K3.four
        obtain ⟨l0, l1, l2, l3⟩ := r6.four
        clear K0 K1 K2 K3 HN HZ HSUB K00 K10 K20 K30 HK0 HK1 HK2 HK3 HW0 hg6
        generalize g6 = gL at *
        by_cases hc : r = l
        · have heq : ∀ w, (Op.equalIn 10000 24 (.agg #[.int .u64 (lim r 0 : Int), .int .u64 (lim r 1 : Int), .int .u64 (lim r 2 : Int), .int .u64 (lim r 3 : Int)]) (.agg #[.int .u64 (lim l 0 : Int), .int .u64 (lim l 1 : Int), .int .u64 (lim l 2 : Int), .int .u64 (lim l 3 : Int)])).run Try.prog w = .ok true w := fun w => by rw [HEQ.out w, decide_eq_true hc]
          replace hc := Lib.hid hc
          go_wp2_with fail
          obtain ⟨W, rfl⟩ : ∃ W : World, W = wr := ⟨_, rfl⟩
          have K00 := RQ
          have K10 := RZ
          clear RQ RZ x0 x1 x2 x3 l0 l1 l2 l3
          have HW0 := HN0.out.size
          have HK0 := K00.lt
          have HK1 := K10.lt
          refine wp_region_inv [[], [], [0, 1, 1], [2], [3], [3], [4, 2, 0, 1, 2, 3, 4]] (RWork11 b t d m l q r u v0 v2 v3 er gT gZ gD gM g10 g11 gL w W undef) (by kernel_rfl) (by kernel_rfl) (hord_of (by decide)) ?_ ?_ ?_
          · exact ⟨_, _, _, _, _, _, rfl, HN0.out.drew, Nat.le_refl _, K00.drew, K10.drew, (fun h => by cases h), (fun h => by cases h), (fun h => by cases h), (fun h => by cases h), (fun h => by cases h), (fun h => by cases h), (fun h => by cases h)⟩
          · rintro L ac wr ⟨x0, x1, x2, x3, x4, x5, rfl, HN, HZ, K0, K1, F0, F1, F2, F3, F4, F5, O0⟩ i hi hL hd K hK
            have hi' : i < 7 := hi
            have hcs : i = 0 ∨ i = 1 ∨ i = 2 ∨ i = 3 ∨ i = 4 ∨ i = 5 ∨ i = 6 := by omega
            clear hi hi'
            rcases hcs with rfl | rfl | rfl | rfl | rfl | rfl | rfl
            · have hs : L 6 = false := by
                  rcases h : L 6 with _ | _
                  · rfl
                  · rw [O0 h] at hL; cases hL
              have KL := K0
              rw [if_neg (by rw [hs]; decide)] at KL
              refine wpOp_of rfl rfl (wp_load_row 24 (.tmp 10) rfl g10 rfl 24 #[.int .u64 (lim q 0 : Int), .int .u64 (lim q 1 : Int), .int .u64 (lim q 2 : Int), .int .u64 (lim q 3 : Int)] (0, 0) _ KL Try.underlying24 rfl (hsU q) (hK _ _ ?_))
              exact ⟨_, x1, x2, x3, x4, x5, rfl, HN, HZ, K0, K1, (fun _ => rfl), F1, F2, F3, F4, F5, (fun _ => rfl)⟩
            · refine wpOp_of rfl rfl (wp_call_of (some 56) rfl 16 #[.int .u64 1] (by kernel_rfl) _ (refOf_1 wr) (fun w' hn => hK _ _ ?_))
              exact ⟨x0, _, x2, x3, x4, x5, rfl, HN.trans hn, Nat.le_trans HZ hn.size, K0.nx hn, K1.nx hn, F0, (fun _ => rfl), F2, F3, F4, F5, O0⟩
            · have e0 := F0 (hd 0 (by decide))
              subst e0
              have e1 := F1 (hd 1 (by decide))
              subst e1
              refine wpOp_of rfl rfl (wp_call_of (some 57) rfl 27 #[.agg #[.int .u64 (lim q 0 : Int), .int .u64 (lim q 1 : Int), .int .u64 (lim q 2 : Int), .int .u64 (lim q 3 : Int)], .agg #[.int .u64 (lim 1 0 : Int), .int .u64 (lim 1 1 : Int), .int .u64 (lim 1 2 : Int), .int .u64 (lim 1 3 : Int)]] (by kernel_rfl) _ (HADD2.out wr) (fun w' hn => hK _ _ ?_))
              exact ⟨_, _, _, x3, x4, x5, rfl, HN.trans hn, Nat.le_trans HZ hn.size, K0.nx hn, K1.nx hn, F0, F1, (fun _ => rfl), F3, F4, F5, O0⟩
            · have e2 := F2 (hd 2 (by decide))
              subst e2
              refine wpOp_of rfl rfl (wp_val_of (some 54) rfl (.tuple #[.agg #[.int .u64 (lim u 0 : Int), .int .u64 (lim u 1 : Int), .int .u64 (lim u 2 : Int), .int .u64 (lim u 3 : Int)], .bool v3]) (by kernel_rfl) (hK _ _ ?_))
              exact ⟨x0, x1, _, _, x4, x5, rfl, HN, HZ, K0, K1, F0, F1, F2, (fun _ => rfl), F4, F5, O0⟩
            · have e3 := F3 (hd 3 (by decide))
              subst e3
              refine wpOp_of rfl rfl (wp_val_of (some 58) rfl (.agg #[.int .u64 (lim u 0 : Int), .int .u64 (lim u 1 : Int), .int .u64 (lim u 2 : Int), .int .u64 (lim u 3 : Int)]) (by kernel_rfl) (hK _ _ ?_))
              exact ⟨x0, x1, x2, _, _, x5, rfl, HN, HZ, K0, K1, F0, F1, F2, F3, (fun _ => rfl), F5, O0⟩
            · have e3 := F3 (hd 3 (by decide))
              subst e3
              refine wpOp_of rfl rfl (wp_val_of (some 59) rfl (.bool v3) (by kernel_rfl) (hK _ _ ?_))
              exact ⟨x0, x1, x2, _, x4, _, rfl, HN, HZ, K0, K1, F0, F1, F2, F3, F4, (fun _ => rfl), O0⟩
            · have e4 := F4 (hd 4 (by decide))
              subst e4
              rw [if_neg (by rw [hL]; decide)] at K0
              refine wpOp_of rfl rfl (wp_store_row 24 (.tmp 10) (.tmp 58) rfl g10 (#[.int .u64 (lim u 0 : Int), .int .u64 (lim u 1 : Int), .int .u64 (lim u 2 : Int), .int .u64 (lim u 3 : Int)]) rfl rfl 24 (#[.int .u64 (lim q 0 : Int), .int .u64 (lim q 1 : Int), .int .u64 (lim q 2 : Int), .int .u64 (lim q 3 : Int)]) K0 (hsU u) rfl (oneU u) (hK _ _ ?_))
              exact ⟨x0, x1, x2, x3, _, x5, rfl, HN.setRow _ HG10.out, (by rw [size_setRow]; exact HZ), K0.setRow _, K1.setRow_other _ HNE, F0, F1, F2, F3, F4, F5, (fun _ => hd 0 (by decide))⟩
          · rintro L ac wr ⟨x0, x1, x2, x3, x4, x5, rfl, HN, HZ, K0, K1, F0, F1, F2, F3, F4, F5, O0⟩ hall
            have hall' : ∀ i, i < 7 → L i = true := hall
            have e0 := F0 (hall' 0 (by decide))
            have e1 := F1 (hall' 1 (by decide))
            have e2 := F2 (hall' 2 (by decide))
            have e3 := F3 (hall' 3 (by decide))
            have e4 := F4 (hall' 4 (by decide))
            have e5 := F5 (hall' 5 (by decide))
            rw [if_pos (hall' 6 (by decide))] at K0
            subst e0 e1 e2 e3 e4 e5
            clear F0 F1 F2 F3 F4 F5 hall hall'
            obtain ⟨u0, u1, u2, u3⟩ := K0.four
            obtain ⟨z0, z1, z2, z3⟩ := K1.zero4
            have fz := K1.frozen
            have NF := Lib.hid HN
            have hgz := HG1.out
            clear K0 K1 HN HZ K00 K10 HK0 HK1 HW0
            go_wp2
            exact bodyPost_ret (v := .tuple #[.agg #[.int .u64 (lim u 0 : Int), .int .u64 (lim u 1 : Int), .int .u64 (lim u 2 : Int), .int .u64 (lim u 3 : Int)], .int .i64 0]) (by simp [results, Try.results43, go_sem, z0, z1, z2, z3, fz]) rfl
              ⟨by rw [HREF.out, if_pos hc.out], by repeat (first | with_reducible exact NF.out | with_reducible refine Nx.setAt ?_ _ hgz)⟩
        · have heq : ∀ w, (Op.equalIn 10000 24 (.agg #[.int .u64 (lim r 0 : Int), .int .u64 (lim r 1 : Int), .int .u64 (lim r 2 : Int), .int .u64 (lim r 3 : Int)]) (.agg #[.int .u64 (lim l 0 : Int), .int .u64 (lim l 1 : Int), .int .u64 (lim l 2 : Int), .int .u64 (lim l 3 : Int)])).run Try.prog w = .ok false w := fun w => by rw [HEQ.out w, decide_eq_false hc]
          replace hc := Lib.hid hc
          obtain ⟨q0, q1, q2, q3⟩ := RQ.four
          obtain ⟨z0, z1, z2, z3⟩ := RZ.zero4
          have fz := RZ.frozen
          have hgz := HG1.out
          go_wp2
          exact bodyPost_ret (v := .tuple #[.agg #[.int .u64 (lim q 0 : Int), .int .u64 (lim q 1 : Int), .int .u64 (lim q 2 : Int), .int .u64 (lim q 3 : Int)], .int .i64 0]) (by simp [results, Try.results43, go_sem, z0, z1, z2, z3, fz]) rfl
            ⟨by rw [HREF.out, if_neg hc.out], by repeat (first | with_reducible exact HN0.out | with_reducible refine Nx.setAt ?_ _ hgz)⟩
    · replace HLAST := Lib.hid (HLAST.out rfl)
      obtain ⟨z0, z1, z2, z3⟩ := RZ.zero4
      have fz := RZ.frozen
      have hgz := HG1.out
      go_wp2_with fail
      refine (refOf_1 _).mono ?_
      rintro e wb ⟨rfl, hbb⟩
      have NF := Lib.hid (HN0.out.trans hbb)
      replace RZ := RZ.nx hbb
      clear z0 z1 z2 z3 fz hbb
      obtain ⟨z0, z1, z2, z3⟩ := RZ.zero4
      have fz := RZ.frozen
      go_wp2
      exact bodyPost_ret (v := .tuple #[.agg #[.int .u64 (lim 1 0 : Int), .int .u64 (lim 1 1 : Int), .int .u64 (lim 1 2 : Int), .int .u64 (lim 1 3 : Int)], .int .i64 0]) (by simp [results, Try.results43, go_sem, z0, z1, z2, z3, fz]) rfl
        ⟨by rw [HLAST.out], by repeat (first | with_reducible exact NF.out | with_reducible refine Nx.setAt ?_ _ hgz)⟩

theorem refTWork_any (b : Nat) (w : World) (hb : (b : Int) ≤ 4294967295) :
    Calls Try.prog 43 #[.int .u32 (b : Int)] w fun e w' => e = .returned (.tuple #[.agg #[.int .u64 (lim (wkN b) 0 : Int), .int .u64 (lim (wkN b) 1 : Int), .int .u64 (lim (wkN b) 2 : Int), .int .u64 (lim (wkN b) 3 : Int)], .int .i64 (ofE b)]) ∧ Nx w w' := by
  by_cases h : ofE b = 0
  · have e : wkN b = workN (ofT b) := if_pos h
    rw [e, h]
    exact refTWork_yes b w hb h
  · have h5 : ofE b = 5 := by
      unfold ofE at h ⊢
      split
      · rfl
      · rename_i h2; rw [if_neg h2] at h; exact absurd rfl h
    have e : wkN b = 0 := if_neg h
    obtain ⟨z0, z1, z2, z3⟩ := lim_nought
    rw [e, h5, z0, z1, z2, z3]
    exact refTWork_no b w hb h5
end Go.Proofs.Ytggemncdnclhnaa

namespace Go.Proofs.Ytggemncdnclhnaa
open Go.RowKit
set_option linter.unusedVariables false
set_option linter.unusedSimpArgs false

theorem wkN_lt (b : Nat) : wkN b < top := by
  unfold wkN
  split
  · exact workN_lt _
  · decide

set_option maxHeartbeats 4000000 in
set_option maxRecDepth 100000 in
theorem targetOf_law {w : World} (b : Nat) (hb : (b : Int) ≤ 4294967295) (t : Nat) (ht : t < top) :
    Calls Try.prog 10 #[.int .u32 (b : Int), .agg #[.int .u64 (lim t 0 : Int), .int .u64 (lim t 1 : Int), .int .u64 (lim t 2 : Int), .int .u64 (lim t 3 : Int)]] w fun e w' => e = .returned (.bool true) ∧ Nx w w' := by
  have H1 := Lib.hid (fun w => tof_any b w hb)
  have G1 := Lib.hid (fun w => refTOf_any b w hb)
  have H2 := Lib.hid (fun w => twork_any b w hb)
  have G2 := Lib.hid (fun w => refTWork_any b w hb)
  have H3 := Lib.hid (fun w => tbits_any t w ht)
  have G3 := Lib.hid (fun w => refTBits_any t w ht)
  have he1 : ∀ w, (Op.equalIn 10000 24 (.agg #[.int .u64 (lim (ofT b) 0 : Int), .int .u64 (lim (ofT b) 1 : Int), .int .u64 (lim (ofT b) 2 : Int), .int .u64 (lim (ofT b) 3 : Int)]) (.agg #[.int .u64 (lim (ofT b) 0 : Int), .int .u64 (lim (ofT b) 1 : Int), .int .u64 (lim (ofT b) 2 : Int), .int .u64 (lim (ofT b) 3 : Int)])).run Try.prog w = .ok true w := fun w => by rw [eqU _ _ (ofT_lt b) (ofT_lt b) w]; simp
  have he2 : ∀ w, (Op.equalIn 10000 24 (.agg #[.int .u64 (lim (wkN b) 0 : Int), .int .u64 (lim (wkN b) 1 : Int), .int .u64 (lim (wkN b) 2 : Int), .int .u64 (lim (wkN b) 3 : Int)]) (.agg #[.int .u64 (lim (wkN b) 0 : Int), .int .u64 (lim (wkN b) 1 : Int), .int .u64 (lim (wkN b) 2 : Int), .int .u64 (lim (wkN b) 3 : Int)])).run Try.prog w = .ok true w := fun w => by rw [eqU _ _ (wkN_lt b) (wkN_lt b) w]; simp
  clear ht
  generalize ofT b = x at *
  generalize wkN b = y at *
  generalize ofE b = e0 at *
  generalize bN t = z at *
  go_enter Try.func10, Try.ntmps10
  go_wp2_with fail
  refine (H1.out _).mono ?_
  rintro e w1 ⟨rfl, hb1⟩
  have RT := ((Row.new w #[.int .u64 (lim t 0 : Int), .int .u64 (lim t 1 : Int), .int .u64 (lim t 2 : Int), .int .u64 (lim t 3 : Int)] 24 _ rfl).nx hb1).alloc (.cells #[.int .u64 (lim x 0 : Int), .int .u64 (lim x 1 : Int), .int .u64 (lim x 2 : Int), .int .u64 (lim x 3 : Int)] 24)
  have RA : Row (w1.alloc (.cells #[.int .u64 (lim x 0 : Int), .int .u64 (lim x 1 : Int), .int .u64 (lim x 2 : Int), .int .u64 (lim x 3 : Int)] 24)) w1.heap.size #[.int .u64 (lim x 0 : Int), .int .u64 (lim x 1 : Int), .int .u64 (lim x 2 : Int), .int .u64 (lim x 3 : Int)] 24 := Row.new w1 _ _ _ rfl
  have N1 := Lib.hid ((((Nx.refl w).alloc (.cells #[.int .u64 (lim t 0 : Int), .int .u64 (lim t 1 : Int), .int .u64 (lim t 2 : Int), .int .u64 (lim t 3 : Int)] 24)).trans hb1).alloc (.cells #[.int .u64 (lim x 0 : Int), .int .u64 (lim x 1 : Int), .int .u64 (lim x 2 : Int), .int .u64 (lim x 3 : Int)] 24))
  clear hb1 H1
  go_wp2_with fail
  generalize w1.heap.size = g1 at *
  generalize (w1.alloc (.cells #[.int .u64 (lim x 0 : Int), .int .u64 (lim x 1 : Int), .int .u64 (lim x 2 : Int), .int .u64 (lim x 3 : Int)] 24)) = W1 at *
  refine (G1.out _).mono ?_
  rintro e w2 ⟨rfl, hb2⟩
  replace RT := (RT.nx hb2).alloc (.cells #[.int .u64 (lim x 0 : Int), .int .u64 (lim x 1 : Int), .int .u64 (lim x 2 : Int), .int .u64 (lim x 3 : Int)] 24)
  replace RA := (RA.nx hb2).alloc (.cells #[.int .u64 (lim x 0 : Int), .int .u64 (lim x 1 : Int), .int .u64 (lim x 2 : Int), .int .u64 (lim x 3 : Int)] 24)
  have RB : Row (w2.alloc (.cells #[.int .u64 (lim x 0 : Int), .int .u64 (lim x 1 : Int), .int .u64 (lim x 2 : Int), .int .u64 (lim x 3 : Int)] 24)) w2.heap.size #[.int .u64 (lim x 0 : Int), .int .u64 (lim x 1 : Int), .int .u64 (lim x 2 : Int), .int .u64 (lim x 3 : Int)] 24 := Row.new w2 _ _ _ rfl
  replace N1 := Lib.hid ((N1.out.trans hb2).alloc (.cells #[.int .u64 (lim x 0 : Int), .int .u64 (lim x 1 : Int), .int .u64 (lim x 2 : Int), .int .u64 (lim x 3 : Int)] 24))
  clear hb2 G1
  go_wp2_with fail
  generalize w2.heap.size = g2 at *
  generalize (w2.alloc (.cells #[.int .u64 (lim x 0 : Int), .int .u64 (lim x 1 : Int), .int .u64 (lim x 2 : Int), .int .u64 (lim x 3 : Int)] 24)) = W2 at *
  refine (H2.out _).mono ?_
  rintro e w3 ⟨rfl, hb3⟩
  replace RT := (RT.nx hb3).alloc (.cells #[.int .u64 (lim y 0 : Int), .int .u64 (lim y 1 : Int), .int .u64 (lim y 2 : Int), .int .u64 (lim y 3 : Int)] 24)
  replace RA := (RA.nx hb3).alloc (.cells #[.int .u64 (lim y 0 : Int), .int .u64 (lim y 1 : Int), .int .u64 (lim y 2 : Int), .int .u64 (lim y 3 : Int)] 24)
  replace RB := (RB.nx hb3).alloc (.cells #[.int .u64 (lim y 0 : Int), .int .u64 (lim y 1 : Int), .int .u64 (lim y 2 : Int), .int .u64 (lim y 3 : Int)] 24)
  have RC : Row (w3.alloc (.cells #[.int .u64 (lim y 0 : Int), .int .u64 (lim y 1 : Int), .int .u64 (lim y 2 : Int), .int .u64 (lim y 3 : Int)] 24)) w3.heap.size #[.int .u64 (lim y 0 : Int), .int .u64 (lim y 1 : Int), .int .u64 (lim y 2 : Int), .int .u64 (lim y 3 : Int)] 24 := Row.new w3 _ _ _ rfl
  replace N1 := Lib.hid ((N1.out.trans hb3).alloc (.cells #[.int .u64 (lim y 0 : Int), .int .u64 (lim y 1 : Int), .int .u64 (lim y 2 : Int), .int .u64 (lim y 3 : Int)] 24))
  clear hb3 H2
  go_wp2_with fail
  generalize w3.heap.size = g3 at *
  generalize (w3.alloc (.cells #[.int .u64 (lim y 0 : Int), .int .u64 (lim y 1 : Int), .int .u64 (lim y 2 : Int), .int .u64 (lim y 3 : Int)] 24)) = W3 at *
  refine (G2.out _).mono ?_
  rintro e w4 ⟨rfl, hb4⟩
  replace RT := (RT.nx hb4).alloc (.cells #[.int .u64 (lim y 0 : Int), .int .u64 (lim y 1 : Int), .int .u64 (lim y 2 : Int), .int .u64 (lim y 3 : Int)] 24)
  replace RA := (RA.nx hb4).alloc (.cells #[.int .u64 (lim y 0 : Int), .int .u64 (lim y 1 : Int), .int .u64 (lim y 2 : Int), .int .u64 (lim y 3 : Int)] 24)
  replace RB := (RB.nx hb4).alloc (.cells #[.int .u64 (lim y 0 : Int), .int .u64 (lim y 1 : Int), .int .u64 (lim y 2 : Int), .int .u64 (lim y 3 : Int)] 24)
  replace RC := (RC.nx hb4).alloc (.cells #[.int .u64 (lim y 0 : Int), .int .u64 (lim y 1 : Int), .int .u64 (lim y 2 : Int), .int .u64 (lim y 3 : Int)] 24)
  have RD : Row (w4.alloc (.cells #[.int .u64 (lim y 0 : Int), .int .u64 (lim y 1 : Int), .int .u64 (lim y 2 : Int), .int .u64 (lim y 3 : Int)] 24)) w4.heap.size #[.int .u64 (lim y 0 : Int), .int .u64 (lim y 1 : Int), .int .u64 (lim y 2 : Int), .int .u64 (lim y 3 : Int)] 24 := Row.new w4 _ _ _ rfl
  replace N1 := Lib.hid ((N1.out.trans hb4).alloc (.cells #[.int .u64 (lim y 0 : Int), .int .u64 (lim y 1 : Int), .int .u64 (lim y 2 : Int), .int .u64 (lim y 3 : Int)] 24))
  clear hb4 G2
  go_wp2_with fail
  generalize w4.heap.size = g4 at *
  generalize (w4.alloc (.cells #[.int .u64 (lim y 0 : Int), .int .u64 (lim y 1 : Int), .int .u64 (lim y 2 : Int), .int .u64 (lim y 3 : Int)] 24)) = W at *
  have qt0 : ∀ d os, (Sort.grow (redrawn W d) os).cell? ⟨w.heap.size, 0, none⟩ = some (.int .u64 (lim t 0 : Int)) := fun d os => cell_regrown (RT.cell rfl) d os
  have qa0 : ∀ d os, (Sort.grow (redrawn W d) os).cell? ⟨g1, 0, none⟩ = some (.int .u64 (lim x 0 : Int)) := fun d os => cell_regrown (RA.cell rfl) d os
  have qb0 : ∀ d os, (Sort.grow (redrawn W d) os).cell? ⟨g2, 0, none⟩ = some (.int .u64 (lim x 0 : Int)) := fun d os => cell_regrown (RB.cell rfl) d os
  have qc0 : ∀ d os, (Sort.grow (redrawn W d) os).cell? ⟨g3, 0, none⟩ = some (.int .u64 (lim y 0 : Int)) := fun d os => cell_regrown (RC.cell rfl) d os
  have qd0 : ∀ d os, (Sort.grow (redrawn W d) os).cell? ⟨g4, 0, none⟩ = some (.int .u64 (lim y 0 : Int)) := fun d os => cell_regrown (RD.cell rfl) d os
  have qt1 : ∀ d os, (Sort.grow (redrawn W d) os).cell? ⟨w.heap.size, 1, none⟩ = some (.int .u64 (lim t 1 : Int)) := fun d os => cell_regrown (RT.cell rfl) d os
  have qa1 : ∀ d os, (Sort.grow (redrawn W d) os).cell? ⟨g1, 1, none⟩ = some (.int .u64 (lim x 1 : Int)) := fun d os => cell_regrown (RA.cell rfl) d os
  have qb1 : ∀ d os, (Sort.grow (redrawn W d) os).cell? ⟨g2, 1, none⟩ = some (.int .u64 (lim x 1 : Int)) := fun d os => cell_regrown (RB.cell rfl) d os
  have qc1 : ∀ d os, (Sort.grow (redrawn W d) os).cell? ⟨g3, 1, none⟩ = some (.int .u64 (lim y 1 : Int)) := fun d os => cell_regrown (RC.cell rfl) d os
  have qd1 : ∀ d os, (Sort.grow (redrawn W d) os).cell? ⟨g4, 1, none⟩ = some (.int .u64 (lim y 1 : Int)) := fun d os => cell_regrown (RD.cell rfl) d os
  have qt2 : ∀ d os, (Sort.grow (redrawn W d) os).cell? ⟨w.heap.size, 2, none⟩ = some (.int .u64 (lim t 2 : Int)) := fun d os => cell_regrown (RT.cell rfl) d os
  have qa2 : ∀ d os, (Sort.grow (redrawn W d) os).cell? ⟨g1, 2, none⟩ = some (.int .u64 (lim x 2 : Int)) := fun d os => cell_regrown (RA.cell rfl) d os
  have qb2 : ∀ d os, (Sort.grow (redrawn W d) os).cell? ⟨g2, 2, none⟩ = some (.int .u64 (lim x 2 : Int)) := fun d os => cell_regrown (RB.cell rfl) d os
  have qc2 : ∀ d os, (Sort.grow (redrawn W d) os).cell? ⟨g3, 2, none⟩ = some (.int .u64 (lim y 2 : Int)) := fun d os => cell_regrown (RC.cell rfl) d os
  have qd2 : ∀ d os, (Sort.grow (redrawn W d) os).cell? ⟨g4, 2, none⟩ = some (.int .u64 (lim y 2 : Int)) := fun d os => cell_regrown (RD.cell rfl) d os
  have qt3 : ∀ d os, (Sort.grow (redrawn W d) os).cell? ⟨w.heap.size, 3, none⟩ = some (.int .u64 (lim t 3 : Int)) := fun d os => cell_regrown (RT.cell rfl) d os
  have qa3 : ∀ d os, (Sort.grow (redrawn W d) os).cell? ⟨g1, 3, none⟩ = some (.int .u64 (lim x 3 : Int)) := fun d os => cell_regrown (RA.cell rfl) d os
  have qb3 : ∀ d os, (Sort.grow (redrawn W d) os).cell? ⟨g2, 3, none⟩ = some (.int .u64 (lim x 3 : Int)) := fun d os => cell_regrown (RB.cell rfl) d os
  have qc3 : ∀ d os, (Sort.grow (redrawn W d) os).cell? ⟨g3, 3, none⟩ = some (.int .u64 (lim y 3 : Int)) := fun d os => cell_regrown (RC.cell rfl) d os
  have qd3 : ∀ d os, (Sort.grow (redrawn W d) os).cell? ⟨g4, 3, none⟩ = some (.int .u64 (lim y 3 : Int)) := fun d os => cell_regrown (RD.cell rfl) d os
  clear RT RA RB RC RD
  refine wp_region_quiet_below (by kernel_rfl) (by kernel_rfl) ?_
  repeat (first
    | quiet_step ((first
      | (go_at_call 44; with_reducible exact Calls.regrown_of (H3.out _))
      | (go_at_call 45; with_reducible exact Calls.regrown_of (G3.out _))
      | (go_at_call 46; with_reducible exact Calls.regrown_of (lives4_any _)))))
  refine wpQuiet_nil ?_
  intro _ hw'
  obtain ⟨⟨dq, osq⟩, hw''⟩ := hw'
  subst hw''
  go_wp2
  go_ret
  exact ⟨rfl, N1.out.trans (below_regrown W dq osq)⟩
end Go.Proofs.Ytggemncdnclhnaa

namespace Go.Proofs.Ytggemncdnclhnaa.targetOf
open Go.ChangeShapes Go.WideShapes Go.ChangeAt Go.RowKit
set_option linter.unusedVariables false

theorem own : ownKnob Try.prog.godebug = none := by kernel_rfl
theorem laidOut : laidOutB Try.prog = true := by kernel_rfl

set_option maxRecDepth 100000 in
theorem lifted (os : Os) (started : os.Started) (H : Type) (enc : TypeId × Value → H) :
    ReturnsInHanded {} Try.checked os 10 .any (Rows.targetOfSpec.pre6 enc Try.prog Try.f10 Rows.targetOfRow.domain false) (Rows.targetOfSpec.post enc Try.prog Try.f10 false true false false) := by
  refine returnsInHanded_of_change_sized (C := Try.checked) own started (by kernel_rfl) Try.func10
    (ChangeSpec.witness6 (enc := enc) (C := Try.checked) false ⟨#[], #[.int .u32 0, .agg #[.int .u64 0, .int .u64 0, .int .u64 0, .int .u64 0]], []⟩ 8 (by kernel_rfl) (by kernel_rfl) (by kernel_rfl) (by kernel_rfl)) ?_
  intro W base args ds gs before hval0 hW hcnd hsz0 _
  have hsz : (DataW.weightsEach Try.prog (Try.f10.params.toList ++ Rows.targetOfSpec.plain.varTypes Try.prog) (ds ++ gs)).all (· ≤ reachBytes) = true := hsz0
  clear hsz0
  have hval : ∀ (j : Nat) t v, Try.f10.params[j]? = some t → args[j]? = some v → Value.okWide Try.prog W .any base t v := hval0
  have hW' := hW
  obtain ⟨p, q, hA0, hV, rfl, hfz, hnd⟩ := hW
  have hA : DataW.TrodAll enc Try.prog W 0 (fun _ => true) true Try.f10.params.toList args.toList ds p := hA0
  rw [Try.params10] at hA hval hsz
  obtain ⟨v0, vs0, d0, ds0, p0, q0, hargs, rfl, rfl, h0, r0⟩ := trodAll_cons hA
  obtain ⟨v1, vs1, d1, ds1, p1, q1, rfl, rfl, rfl, h1, r1⟩ := trodAll_cons r0
  obtain ⟨rfl, rfl, rfl⟩ := trodAll_nil r1
  obtain rfl : args = #[v0, v1] := by cases args; simp_all
  obtain ⟨rfl, rfl⟩ := trodVars_none hV
  obtain ⟨a0, rfl, rfl, rfl, w0⟩ := open_int Try.underlying48 (hval 0 48 v0 rfl rfl) h0
  obtain ⟨z1, hz1, rfl, rfl, rfl, w1⟩ := open_arr (n := 4) Try.underlying24 Try.underlying22 (by kernel_rfl) (by kernel_rfl) (hval 1 24 v1 rfl rfl) h1
  obtain ⟨n1, l1, e1⟩ := u256_of z1 hz1 w1
  clear hA0 hval0
  have b0 := wf_u32 w0
  obtain ⟨n0, e0⟩ := Int.eq_ofNat_of_zero_le b0.1
  subst e0
  have LAW := targetOf_law (w := W) n0 b0.2 n1 l1
  rw [← e1] at LAW
  refine LAW.mono fun e W' ⟨he, bel⟩ => ?_
  subst he
  exact ⟨_, rfl, _, _, _, [], _, [], hW', trodAll_mk1 (shut_bool Try.underlying4 _), (trodAll_cons_mk (shut_int Try.underlying48 w0) (trodAll_cons_mk (shut_arr Try.underlying24 Try.underlying22 (by kernel_rfl) (by kernel_rfl) z1 hz1 w1) trodAll_mk0)), rfl, bel.frame _, fun h => by cases h⟩

theorem over : Rows.targetOfRow.holds Try.pinned (OpenSpec.ofChange Rows.targetOfSpec) :=
  OpenClaim.holds_of_wide 10 Try.f10 rfl rfl rfl rfl rfl rfl rfl ⟨rfl, rfl, rfl, rfl, rfl⟩ rfl rfl rfl rfl rfl (by kernel_rfl) Try.func10 (by kernel_rfl)
    (of_decide_eq_true (by kernel_rfl)) (by unfold Func.isWrapper; first | (rw [if_pos (by decide +kernel)]; kernel_rfl) | (rw [if_neg (by decide +kernel)]; exact ⟨rfl, rfl⟩))
    (fun os started H enc _ => lifted os started H enc)

theorem proved : Rows.TargetOfSaid := over
#print axioms proved
end Go.Proofs.Ytggemncdnclhnaa.targetOf
