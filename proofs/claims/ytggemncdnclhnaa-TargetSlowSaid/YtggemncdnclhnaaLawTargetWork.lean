/- LAYER 4: the walk of TargetWork. -/
import Derived.Test.YtggemncdnclhnaaTar7
import Derived.Test.YtggemncdnclhnaaRefLess
namespace Go.Proofs.Ytggemncdnclhnaa
open Go.RowKit
set_option linter.unusedVariables false
set_option linter.unusedSimpArgs false

theorem ofT_pos (b : Nat) (h : ofE b = 0) : ofT b ≠ 0 := by
  unfold ofE at h
  unfold ofT
  by_cases hc : tN b = 0 ∨ bN (tN b) ≠ b
  · rw [if_pos hc] at h; cases h
  · rw [if_neg hc]
    intro e
    exact hc (.inl e)
/-- The work, as the quotient that it is. -/
theorem workN_eq (t : Nat) (h0 : t ≠ 0) (ht : t < top) : workN t = top / (t + 1) := by
  have htop : 0 < top := by decide
  unfold workN
  by_cases hl : t + 1 < top
  · have e1 : addN t 1 = t + 1 := Nat.mod_eq_of_lt hl
    have e2 : subN 0 (t + 1) = top - (t + 1) := by unfold subN; rw [if_neg (by omega), Nat.add_zero]
    have e3 : overQ (top - (t + 1)) (t + 1) = (top - (t + 1)) / (t + 1) := if_neg (by omega)
    have e4 : top / (t + 1) = (top - (t + 1)) / (t + 1) + 1 := by rw [Nat.div_eq, if_pos ⟨by omega, by omega⟩]
    have e5 : top / (t + 1) < top := Nat.div_lt_self htop (by omega)
    rw [e1, e2, e3, ← Nat.mod_eq_of_lt e5, e4]
    rfl
  · have e : t + 1 = top := by omega
    have e1 : addN t 1 = 0 := by unfold addN; rw [e]; exact Nat.mod_self _
    rw [e1, e, Nat.div_self htop]
    rfl
theorem workN_lt (t : Nat) : workN t < top := addN_lt _ _
theorem workN_mono (x y : Nat) (hx : x ≠ 0) (hx2 : x < top) (hy2 : y < top) (h : x < y) : subB (workN x) (workN y) = false := by
  rw [workN_eq x hx hx2, workN_eq y (by omega) hy2]
  unfold subB
  have := Nat.div_le_div_left (a := top) (show x + 1 ≤ y + 1 by omega) (by omega)
  simp only [decide_eq_false_iff_not]
  omega
theorem less_of (a b : Nat) (v : Bool) (w : World) (ha : a < top) (hb : b < top) (h : subB a b = v) :
    Calls Try.prog 22 #[.agg #[.int .u64 (lim a 0 : Int), .int .u64 (lim a 1 : Int), .int .u64 (lim a 2 : Int), .int .u64 (lim a 3 : Int)], .agg #[.int .u64 (lim b 0 : Int), .int .u64 (lim b 1 : Int), .int .u64 (lim b 2 : Int), .int .u64 (lim b 3 : Int)]] w fun e w' => e = .returned (.bool v) ∧ Nx w w' := by
  have := refLess_any a b w ha hb
  rw [h] at this
  exact this

set_option maxHeartbeats 4000000 in
set_option maxRecDepth 100000 in
theorem targetWork_no {w : World} (a : Nat) (ha : (a : Int) ≤ 4294967295) (b : Nat) (hb : (b : Int) ≤ 4294967295) (ea eb : Int) (hea : ofE a = ea) (heb : ofE b = eb) (h : (ea = 5 ∧ eb = 5) ∨ (ea = 5 ∧ eb = 0) ∨ (ea = 0 ∧ eb = 5)) :
    Calls Try.prog 13 #[.int .u32 (a : Int), .int .u32 (b : Int)] w fun e w' => e = .returned (.bool true) ∧ Nx w w' := by
  have HA := Lib.hid (fun w => tof_any a w ha)
  have HB := Lib.hid (fun w => tof_any b w hb)
  rw [hea] at HA
  rw [heb] at HB
  clear hea heb
  generalize ofT a = x at *
  generalize ofT b = y at *
  rcases h with ⟨rfl, rfl⟩ | ⟨rfl, rfl⟩ | ⟨rfl, rfl⟩
  all_goals
    go_enter Try.func13, Try.ntmps13
    go_wp2_with fail
    refine (HA.out _).mono ?_
    rintro e w1 ⟨rfl, hb1⟩
    have N1 := Lib.hid (hb1.alloc (.cells #[.int .u64 (lim x 0 : Int), .int .u64 (lim x 1 : Int), .int .u64 (lim x 2 : Int), .int .u64 (lim x 3 : Int)] 24))
    clear hb1
    go_wp2_with fail
    refine (HB.out _).mono ?_
    rintro e w2 ⟨rfl, hb2⟩
    replace N1 := Lib.hid ((N1.out.trans hb2).alloc (.cells #[.int .u64 (lim y 0 : Int), .int .u64 (lim y 1 : Int), .int .u64 (lim y 2 : Int), .int .u64 (lim y 3 : Int)] 24))
    clear hb2
    go_wp2_with fail
    refine (lives4_any _).mono ?_
    rintro e w9 ⟨rfl, hb9⟩
    go_wp2
    go_ret
    exact ⟨rfl, N1.out.trans hb9⟩

set_option maxHeartbeats 16000000 in
set_option maxRecDepth 100000 in
theorem targetWork_yes {w : World} (a : Nat) (ha : (a : Int) ≤ 4294967295) (b : Nat) (hb : (b : Int) ≤ 4294967295) (hea : ofE a = 0) (heb : ofE b = 0) :
    Calls Try.prog 13 #[.int .u32 (a : Int), .int .u32 (b : Int)] w fun e w' => e = .returned (.bool true) ∧ Nx w w' := by
  have HA := Lib.hid (fun w => tof_any a w ha)
  have HB := Lib.hid (fun w => tof_any b w hb)
  have GA := Lib.hid (fun w => twork_yes a w ha hea)
  have GB := Lib.hid (fun w => twork_yes b w hb heb)
  rw [hea] at HA
  rw [heb] at HB
  have hx0 := ofT_pos a hea
  have hy0 := ofT_pos b heb
  have hx := ofT_lt a
  have hy := ofT_lt b
  clear hea heb
  generalize ofT a = x at *
  generalize ofT b = y at *
  have HXY := Lib.hid (fun h => workN_mono x y hx0 hx hy h)
  have HYX := Lib.hid (fun h => workN_mono y x hy0 hy hx h)
  have HVL := Lib.hid (workN_lt x)
  have HUL := Lib.hid (workN_lt y)
  have HEQ : Hid (x = y → workN x = workN y) := Lib.hid (fun h => by rw [h])
  have HXL := Lib.hid hx
  have HYL := Lib.hid hy
  clear hx0 hy0 hx hy
  generalize workN x = v at *
  generalize workN y = u at *
  go_enter Try.func13, Try.ntmps13
  go_wp2_with fail
  refine (HA.out _).mono ?_
  rintro e w1 ⟨rfl, hb1⟩
  have R5 : Row (w1.alloc (.cells #[.int .u64 (lim x 0 : Int), .int .u64 (lim x 1 : Int), .int .u64 (lim x 2 : Int), .int .u64 (lim x 3 : Int)] 24)) w1.heap.size #[.int .u64 (lim x 0 : Int), .int .u64 (lim x 1 : Int), .int .u64 (lim x 2 : Int), .int .u64 (lim x 3 : Int)] 24 := Row.new w1 _ _ _ rfl
  have N1 := Lib.hid (hb1.alloc (.cells #[.int .u64 (lim x 0 : Int), .int .u64 (lim x 1 : Int), .int .u64 (lim x 2 : Int), .int .u64 (lim x 3 : Int)] 24))
  clear hb1
  go_wp2_with fail
  refine (HB.out _).mono ?_
  rintro e w2 ⟨rfl, hb2⟩
  replace R5 := (R5.nx hb2).alloc (.cells #[.int .u64 (lim y 0 : Int), .int .u64 (lim y 1 : Int), .int .u64 (lim y 2 : Int), .int .u64 (lim y 3 : Int)] 24)
  have R7 : Row (w2.alloc (.cells #[.int .u64 (lim y 0 : Int), .int .u64 (lim y 1 : Int), .int .u64 (lim y 2 : Int), .int .u64 (lim y 3 : Int)] 24)) w2.heap.size #[.int .u64 (lim y 0 : Int), .int .u64 (lim y 1 : Int), .int .u64 (lim y 2 : Int), .int .u64 (lim y 3 : Int)] 24 := Row.new w2 _ _ _ rfl
  replace N1 := Lib.hid ((N1.out.trans hb2).alloc (.cells #[.int .u64 (lim y 0 : Int), .int .u64 (lim y 1 : Int), .int .u64 (lim y 2 : Int), .int .u64 (lim y 3 : Int)] 24))
  clear hb2
  go_wp2_with fail
  refine (GA.out _).mono ?_
  rintro e w3 ⟨rfl, hb3⟩
  replace R5 := (R5.nx hb3).alloc (.cells #[.int .u64 (lim v 0 : Int), .int .u64 (lim v 1 : Int), .int .u64 (lim v 2 : Int), .int .u64 (lim v 3 : Int)] 24)
  replace R7 := (R7.nx hb3).alloc (.cells #[.int .u64 (lim v 0 : Int), .int .u64 (lim v 1 : Int), .int .u64 (lim v 2 : Int), .int .u64 (lim v 3 : Int)] 24)
  have R9 : Row (w3.alloc (.cells #[.int .u64 (lim v 0 : Int), .int .u64 (lim v 1 : Int), .int .u64 (lim v 2 : Int), .int .u64 (lim v 3 : Int)] 24)) w3.heap.size #[.int .u64 (lim v 0 : Int), .int .u64 (lim v 1 : Int), .int .u64 (lim v 2 : Int), .int .u64 (lim v 3 : Int)] 24 := Row.new w3 _ _ _ rfl
  replace N1 := Lib.hid ((N1.out.trans hb3).alloc (.cells #[.int .u64 (lim v 0 : Int), .int .u64 (lim v 1 : Int), .int .u64 (lim v 2 : Int), .int .u64 (lim v 3 : Int)] 24))
  clear hb3
  go_wp2_with fail
  refine (GB.out _).mono ?_
  rintro e w4 ⟨rfl, hb4⟩
  replace R5 := (R5.nx hb4).alloc (.cells #[.int .u64 (lim u 0 : Int), .int .u64 (lim u 1 : Int), .int .u64 (lim u 2 : Int), .int .u64 (lim u 3 : Int)] 24)
  replace R7 := (R7.nx hb4).alloc (.cells #[.int .u64 (lim u 0 : Int), .int .u64 (lim u 1 : Int), .int .u64 (lim u 2 : Int), .int .u64 (lim u 3 : Int)] 24)
  replace R9 := (R9.nx hb4).alloc (.cells #[.int .u64 (lim u 0 : Int), .int .u64 (lim u 1 : Int), .int .u64 (lim u 2 : Int), .int .u64 (lim u 3 : Int)] 24)
  have R11 : Row (w4.alloc (.cells #[.int .u64 (lim u 0 : Int), .int .u64 (lim u 1 : Int), .int .u64 (lim u 2 : Int), .int .u64 (lim u 3 : Int)] 24)) w4.heap.size #[.int .u64 (lim u 0 : Int), .int .u64 (lim u 1 : Int), .int .u64 (lim u 2 : Int), .int .u64 (lim u 3 : Int)] 24 := Row.new w4 _ _ _ rfl
  replace N1 := Lib.hid ((N1.out.trans hb4).alloc (.cells #[.int .u64 (lim u 0 : Int), .int .u64 (lim u 1 : Int), .int .u64 (lim u 2 : Int), .int .u64 (lim u 3 : Int)] 24))
  clear hb4 HA HB GA GB
  obtain ⟨x0, x1, x2, x3⟩ := R5.four
  obtain ⟨y0, y1, y2, y3⟩ := R7.four
  rcases Nat.lt_trichotomy x y with hl | hl | hl
  · have hs1 := Lib.hid (show subB x y = true by unfold subB; simp [hl])
    have hs2 := Lib.hid (HXY.out hl)
    replace hl := Lib.hid hl
    go_wp2_with fail
    refine (less_of x y true _ HXL.out HYL.out hs1.out).mono ?_
    rintro e w5 ⟨rfl, hb5⟩
    clear x0 x1 x2 x3 y0 y1 y2 y3
    replace R5 := R5.nx hb5
    replace R7 := R7.nx hb5
    replace R9 := R9.nx hb5
    replace R11 := R11.nx hb5
    replace N1 := Lib.hid (N1.out.trans hb5)
    clear hb5
    obtain ⟨v0, v1, v2, v3⟩ := R9.four
    obtain ⟨u0, u1, u2, u3⟩ := R11.four
    go_wp2_with fail
    refine (less_of v u false _ HVL.out HUL.out hs2.out).mono ?_
    rintro e w6 ⟨rfl, hb6⟩
    clear v0 v1 v2 v3 u0 u1 u2 u3
    replace R5 := R5.nx hb6
    replace R7 := R7.nx hb6
    replace R9 := R9.nx hb6
    replace R11 := R11.nx hb6
    replace N1 := Lib.hid (N1.out.trans hb6)
    clear hb6
    go_wp2_with fail
    refine (lives4_any _).mono ?_
    rintro e w9 ⟨rfl, hb9⟩
    go_wp2
    go_ret
    exact ⟨rfl, N1.out.trans hb9⟩
  · subst hl
    have huv := HEQ.out rfl
    subst huv
    have hs1 := Lib.hid (show subB x x = false by unfold subB; simp)
    have he1 : ∀ w, (Op.equalIn 10000 24 (.agg #[.int .u64 (lim x 0 : Int), .int .u64 (lim x 1 : Int), .int .u64 (lim x 2 : Int), .int .u64 (lim x 3 : Int)]) (.agg #[.int .u64 (lim x 0 : Int), .int .u64 (lim x 1 : Int), .int .u64 (lim x 2 : Int), .int .u64 (lim x 3 : Int)])).run Try.prog w = .ok true w := fun w => by rw [eqU x x HXL.out HXL.out w]; simp
    have he2 : ∀ w, (Op.equalIn 10000 24 (.agg #[.int .u64 (lim v 0 : Int), .int .u64 (lim v 1 : Int), .int .u64 (lim v 2 : Int), .int .u64 (lim v 3 : Int)]) (.agg #[.int .u64 (lim v 0 : Int), .int .u64 (lim v 1 : Int), .int .u64 (lim v 2 : Int), .int .u64 (lim v 3 : Int)])).run Try.prog w = .ok true w := fun w => by rw [eqU v v HVL.out HVL.out w]; simp
    go_wp2_with fail
    refine (less_of x x false _ HXL.out HXL.out hs1.out).mono ?_
    rintro e w5 ⟨rfl, hb5⟩
    clear x0 x1 x2 x3 y0 y1 y2 y3
    replace R5 := R5.nx hb5
    replace R7 := R7.nx hb5
    replace R9 := R9.nx hb5
    replace R11 := R11.nx hb5
    replace N1 := Lib.hid (N1.out.trans hb5)
    clear hb5
    obtain ⟨x0, x1, x2, x3⟩ := R5.four
    obtain ⟨y0, y1, y2, y3⟩ := R7.four
    go_wp2_with fail
    refine (less_of x x false _ HXL.out HXL.out hs1.out).mono ?_
    rintro e w6 ⟨rfl, hb6⟩
    clear x0 x1 x2 x3 y0 y1 y2 y3
    replace R5 := R5.nx hb6
    replace R7 := R7.nx hb6
    replace R9 := R9.nx hb6
    replace R11 := R11.nx hb6
    replace N1 := Lib.hid (N1.out.trans hb6)
    clear hb6
    obtain ⟨x0, x1, x2, x3⟩ := R5.four
    obtain ⟨y0, y1, y2, y3⟩ := R7.four
    obtain ⟨v0, v1, v2, v3⟩ := R9.four
    obtain ⟨u0, u1, u2, u3⟩ := R11.four
    go_wp2_with fail
    refine (lives4_any _).mono ?_
    rintro e w9 ⟨rfl, hb9⟩
    go_wp2
    go_ret
    exact ⟨rfl, N1.out.trans hb9⟩
  · have hs1 := Lib.hid (show subB x y = false by unfold subB; simp; omega)
    have hs2 := Lib.hid (show subB y x = true by unfold subB; simp [hl])
    have hs3 := Lib.hid (HYX.out hl)
    replace hl := Lib.hid hl
    go_wp2_with fail
    refine (less_of x y false _ HXL.out HYL.out hs1.out).mono ?_
    rintro e w5 ⟨rfl, hb5⟩
    clear x0 x1 x2 x3 y0 y1 y2 y3
    replace R5 := R5.nx hb5
    replace R7 := R7.nx hb5
    replace R9 := R9.nx hb5
    replace R11 := R11.nx hb5
    replace N1 := Lib.hid (N1.out.trans hb5)
    clear hb5
    obtain ⟨x0, x1, x2, x3⟩ := R5.four
    obtain ⟨y0, y1, y2, y3⟩ := R7.four
    go_wp2_with fail
    refine (less_of y x true _ HYL.out HXL.out hs2.out).mono ?_
    rintro e w6 ⟨rfl, hb6⟩
    clear x0 x1 x2 x3 y0 y1 y2 y3
    replace R5 := R5.nx hb6
    replace R7 := R7.nx hb6
    replace R9 := R9.nx hb6
    replace R11 := R11.nx hb6
    replace N1 := Lib.hid (N1.out.trans hb6)
    clear hb6
    obtain ⟨v0, v1, v2, v3⟩ := R9.four
    obtain ⟨u0, u1, u2, u3⟩ := R11.four
    go_wp2_with fail
    refine (less_of u v false _ HUL.out HVL.out hs3.out).mono ?_
    rintro e w7 ⟨rfl, hb7⟩
    clear v0 v1 v2 v3 u0 u1 u2 u3
    replace R5 := R5.nx hb7
    replace R7 := R7.nx hb7
    replace R9 := R9.nx hb7
    replace R11 := R11.nx hb7
    replace N1 := Lib.hid (N1.out.trans hb7)
    clear hb7
    go_wp2_with fail
    refine (lives4_any _).mono ?_
    rintro e w9 ⟨rfl, hb9⟩
    go_wp2
    go_ret
    exact ⟨rfl, N1.out.trans hb9⟩

theorem ofE_or (b : Nat) : ofE b = 0 ∨ ofE b = 5 := by
  unfold ofE
  split
  · exact .inr rfl
  · exact .inl rfl
theorem targetWork_law {w : World} (a : Nat) (ha : (a : Int) ≤ 4294967295) (b : Nat) (hb : (b : Int) ≤ 4294967295) :
    Calls Try.prog 13 #[.int .u32 (a : Int), .int .u32 (b : Int)] w fun e w' => e = .returned (.bool true) ∧ Nx w w' := by
  rcases ofE_or a with h1 | h1 <;> rcases ofE_or b with h2 | h2
  · exact targetWork_yes a ha b hb h1 h2
  · exact targetWork_no a ha b hb 0 5 h1 h2 (.inr (.inr ⟨rfl, rfl⟩))
  · exact targetWork_no a ha b hb 5 0 h1 h2 (.inr (.inl ⟨rfl, rfl⟩))
  · exact targetWork_no a ha b hb 5 5 h1 h2 (.inl ⟨rfl, rfl⟩)
end Go.Proofs.Ytggemncdnclhnaa
