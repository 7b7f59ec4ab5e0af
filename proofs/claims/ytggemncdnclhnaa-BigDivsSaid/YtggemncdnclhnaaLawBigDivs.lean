/- LAYER 3: the walk of BigDivs. -/
import Derived.Test.YtggemncdnclhnaaRefOver2
import Derived.Test.YtggemncdnclhnaaBigDiv
namespace Go.Proofs.Ytggemncdnclhnaa
open Go.RowKit
set_option linter.unusedVariables false
set_option linter.unusedSimpArgs false

theorem overQ_lt {a : Nat} (b : Nat) (ha : a < top) : overQ a b < top := by
  unfold overQ
  split
  · decide
  · exact Nat.lt_of_le_of_lt (Nat.div_le_self _ _) ha
theorem overR_lt {a : Nat} (b : Nat) (ha : a < top) : overR a b < top := by
  unfold overR
  split
  · decide
  · exact Nat.lt_of_le_of_lt (Nat.mod_le _ _) ha
theorem div_is (a n : Nat) (w : World) (ha : a < top) (hn : (n : Int) ≤ 18446744073709551615) :
    Calls Try.prog 34 #[.agg #[.int .u64 (lim a 0 : Int), .int .u64 (lim a 1 : Int), .int .u64 (lim a 2 : Int), .int .u64 (lim a 3 : Int)], .int .u64 (n : Int)] w fun e w' => e = .returned (.tuple #[.agg #[.int .u64 (lim (overQ a n) 0 : Int), .int .u64 (lim (overQ a n) 1 : Int), .int .u64 (lim (overQ a n) 2 : Int), .int .u64 (lim (overQ a n) 3 : Int)], .int .u64 ((lim (overR a n) 0 : Nat) : Int), .int .i64 (overE n)]) ∧ Nx w w' := by
  rcases Nat.eq_zero_or_pos n with rfl | hp
  · obtain ⟨z0, z1, z2, z3⟩ := lim_nought
    have e1 : overQ a 0 = 0 := rfl
    have e2 : overR a 0 = 0 := rfl
    rw [e1, e2, z0, z1, z2, z3]
    exact div_nought a w
  · have e1 : overQ a n = a / n := if_neg (by omega)
    have e2 : overR a n = a % n := if_neg (by omega)
    have e3 : overE n = 0 := if_neg (by omega)
    have hl := Nat.mod_lt a hp
    have e4 : lim (a % n) 0 = a % n := by rw [lim0]; exact Nat.mod_eq_of_lt (by omega)
    rw [e1, e2, e3, e4]
    exact div_yes a n w ha hn (by omega)

set_option maxHeartbeats 8000000 in
set_option maxRecDepth 100000 in
theorem bigDivs_law {w : World} (a : Nat) (ha : a < top) (b : Nat) (hb : b < top) (n : Nat) (hn : (n : Int) ≤ 18446744073709551615) :
    Calls Try.prog 6 #[.agg #[.int .u64 (lim a 0 : Int), .int .u64 (lim a 1 : Int), .int .u64 (lim a 2 : Int), .int .u64 (lim a 3 : Int)], .agg #[.int .u64 (lim b 0 : Int), .int .u64 (lim b 1 : Int), .int .u64 (lim b 2 : Int), .int .u64 (lim b 3 : Int)], .int .u64 (n : Int)] w fun e w' => e = .returned (.bool true) ∧ Nx w w' := by
  have H1 := fun w => over_any a b w ha hb
  have G1 := fun w => refOver_any a b w ha hb
  have H2 := fun w => div_is a n w ha hn
  have G2 := fun w => refDiv_any a n w ha hn
  have he1 : ∀ w, (Op.equalIn 10000 24 (.agg #[.int .u64 (lim (overQ a b) 0 : Int), .int .u64 (lim (overQ a b) 1 : Int), .int .u64 (lim (overQ a b) 2 : Int), .int .u64 (lim (overQ a b) 3 : Int)]) (.agg #[.int .u64 (lim (overQ a b) 0 : Int), .int .u64 (lim (overQ a b) 1 : Int), .int .u64 (lim (overQ a b) 2 : Int), .int .u64 (lim (overQ a b) 3 : Int)])).run Try.prog w = .ok true w := fun w => by rw [eqU _ _ (overQ_lt b ha) (overQ_lt b ha) w]; simp
  have he2 : ∀ w, (Op.equalIn 10000 24 (.agg #[.int .u64 (lim (overR a b) 0 : Int), .int .u64 (lim (overR a b) 1 : Int), .int .u64 (lim (overR a b) 2 : Int), .int .u64 (lim (overR a b) 3 : Int)]) (.agg #[.int .u64 (lim (overR a b) 0 : Int), .int .u64 (lim (overR a b) 1 : Int), .int .u64 (lim (overR a b) 2 : Int), .int .u64 (lim (overR a b) 3 : Int)])).run Try.prog w = .ok true w := fun w => by rw [eqU _ _ (overR_lt b ha) (overR_lt b ha) w]; simp
  have he3 : ∀ w, (Op.equalIn 10000 24 (.agg #[.int .u64 (lim (overQ a n) 0 : Int), .int .u64 (lim (overQ a n) 1 : Int), .int .u64 (lim (overQ a n) 2 : Int), .int .u64 (lim (overQ a n) 3 : Int)]) (.agg #[.int .u64 (lim (overQ a n) 0 : Int), .int .u64 (lim (overQ a n) 1 : Int), .int .u64 (lim (overQ a n) 2 : Int), .int .u64 (lim (overQ a n) 3 : Int)])).run Try.prog w = .ok true w := fun w => by rw [eqU _ _ (overQ_lt n ha) (overQ_lt n ha) w]; simp
  generalize overQ a b = q at *
  generalize overR a b = r at *
  generalize overE b = e1 at *
  generalize overQ a n = s at *
  generalize lim (overR a n) 0 = t at *
  generalize overE n = e2 at *
  replace H1 := Lib.hid H1
  replace G1 := Lib.hid G1
  replace H2 := Lib.hid H2
  replace G2 := Lib.hid G2
  clear ha hb
  go_enter Try.func6, Try.ntmps6
  go_wp2_with fail
  refine (H1.out _).mono ?_
  rintro e w1 ⟨rfl, hb1⟩
  have RA := ((((Row.new w #[.int .u64 (lim a 0 : Int), .int .u64 (lim a 1 : Int), .int .u64 (lim a 2 : Int), .int .u64 (lim a 3 : Int)] 24 _ rfl).alloc (.cells #[.int .u64 (lim b 0 : Int), .int .u64 (lim b 1 : Int), .int .u64 (lim b 2 : Int), .int .u64 (lim b 3 : Int)] 24)).nx hb1).alloc (.cells #[.int .u64 (lim q 0 : Int), .int .u64 (lim q 1 : Int), .int .u64 (lim q 2 : Int), .int .u64 (lim q 3 : Int)] 24)).alloc (.cells #[.int .u64 (lim r 0 : Int), .int .u64 (lim r 1 : Int), .int .u64 (lim r 2 : Int), .int .u64 (lim r 3 : Int)] 24)
  have RB := (((Row.new2 w (.cells #[.int .u64 (lim a 0 : Int), .int .u64 (lim a 1 : Int), .int .u64 (lim a 2 : Int), .int .u64 (lim a 3 : Int)] 24) #[.int .u64 (lim b 0 : Int), .int .u64 (lim b 1 : Int), .int .u64 (lim b 2 : Int), .int .u64 (lim b 3 : Int)] 24).nx hb1).alloc (.cells #[.int .u64 (lim q 0 : Int), .int .u64 (lim q 1 : Int), .int .u64 (lim q 2 : Int), .int .u64 (lim q 3 : Int)] 24)).alloc (.cells #[.int .u64 (lim r 0 : Int), .int .u64 (lim r 1 : Int), .int .u64 (lim r 2 : Int), .int .u64 (lim r 3 : Int)] 24)
  have R1 : Row ((w1.alloc (.cells #[.int .u64 (lim q 0 : Int), .int .u64 (lim q 1 : Int), .int .u64 (lim q 2 : Int), .int .u64 (lim q 3 : Int)] 24)).alloc (.cells #[.int .u64 (lim r 0 : Int), .int .u64 (lim r 1 : Int), .int .u64 (lim r 2 : Int), .int .u64 (lim r 3 : Int)] 24)) w1.heap.size #[.int .u64 (lim q 0 : Int), .int .u64 (lim q 1 : Int), .int .u64 (lim q 2 : Int), .int .u64 (lim q 3 : Int)] 24 := (Row.new w1 _ _ _ rfl).alloc _
  have R2 : Row ((w1.alloc (.cells #[.int .u64 (lim q 0 : Int), .int .u64 (lim q 1 : Int), .int .u64 (lim q 2 : Int), .int .u64 (lim q 3 : Int)] 24)).alloc (.cells #[.int .u64 (lim r 0 : Int), .int .u64 (lim r 1 : Int), .int .u64 (lim r 2 : Int), .int .u64 (lim r 3 : Int)] 24)) (w1.heap.size + 1) #[.int .u64 (lim r 0 : Int), .int .u64 (lim r 1 : Int), .int .u64 (lim r 2 : Int), .int .u64 (lim r 3 : Int)] 24 := Row.new2 w1 _ _ _
  have N1 := Lib.hid (((((Nx.refl w).alloc _).alloc _).trans hb1 |>.alloc (.cells #[.int .u64 (lim q 0 : Int), .int .u64 (lim q 1 : Int), .int .u64 (lim q 2 : Int), .int .u64 (lim q 3 : Int)] 24)).alloc (.cells #[.int .u64 (lim r 0 : Int), .int .u64 (lim r 1 : Int), .int .u64 (lim r 2 : Int), .int .u64 (lim r 3 : Int)] 24))
  obtain ⟨a0, a1, a2, a3⟩ := RA.four
  obtain ⟨b0, b1, b2, b3⟩ := RB.four
  clear hb1
  go_wp2_with fail
  refine (G1.out _).mono ?_
  rintro e w2 ⟨rfl, hb2⟩
  clear a0 a1 a2 a3 b0 b1 b2 b3 RB
  replace RA := ((RA.nx hb2).alloc (.cells #[.int .u64 (lim q 0 : Int), .int .u64 (lim q 1 : Int), .int .u64 (lim q 2 : Int), .int .u64 (lim q 3 : Int)] 24)).alloc (.cells #[.int .u64 (lim r 0 : Int), .int .u64 (lim r 1 : Int), .int .u64 (lim r 2 : Int), .int .u64 (lim r 3 : Int)] 24)
  replace R1 := ((R1.nx hb2).alloc (.cells #[.int .u64 (lim q 0 : Int), .int .u64 (lim q 1 : Int), .int .u64 (lim q 2 : Int), .int .u64 (lim q 3 : Int)] 24)).alloc (.cells #[.int .u64 (lim r 0 : Int), .int .u64 (lim r 1 : Int), .int .u64 (lim r 2 : Int), .int .u64 (lim r 3 : Int)] 24)
  replace R2 := ((R2.nx hb2).alloc (.cells #[.int .u64 (lim q 0 : Int), .int .u64 (lim q 1 : Int), .int .u64 (lim q 2 : Int), .int .u64 (lim q 3 : Int)] 24)).alloc (.cells #[.int .u64 (lim r 0 : Int), .int .u64 (lim r 1 : Int), .int .u64 (lim r 2 : Int), .int .u64 (lim r 3 : Int)] 24)
  have R3 : Row ((w2.alloc (.cells #[.int .u64 (lim q 0 : Int), .int .u64 (lim q 1 : Int), .int .u64 (lim q 2 : Int), .int .u64 (lim q 3 : Int)] 24)).alloc (.cells #[.int .u64 (lim r 0 : Int), .int .u64 (lim r 1 : Int), .int .u64 (lim r 2 : Int), .int .u64 (lim r 3 : Int)] 24)) w2.heap.size #[.int .u64 (lim q 0 : Int), .int .u64 (lim q 1 : Int), .int .u64 (lim q 2 : Int), .int .u64 (lim q 3 : Int)] 24 := (Row.new w2 _ _ _ rfl).alloc _
  have R4 : Row ((w2.alloc (.cells #[.int .u64 (lim q 0 : Int), .int .u64 (lim q 1 : Int), .int .u64 (lim q 2 : Int), .int .u64 (lim q 3 : Int)] 24)).alloc (.cells #[.int .u64 (lim r 0 : Int), .int .u64 (lim r 1 : Int), .int .u64 (lim r 2 : Int), .int .u64 (lim r 3 : Int)] 24)) (w2.heap.size + 1) #[.int .u64 (lim r 0 : Int), .int .u64 (lim r 1 : Int), .int .u64 (lim r 2 : Int), .int .u64 (lim r 3 : Int)] 24 := Row.new2 w2 _ _ _
  replace N1 := Lib.hid ((N1.out.trans hb2 |>.alloc (.cells #[.int .u64 (lim q 0 : Int), .int .u64 (lim q 1 : Int), .int .u64 (lim q 2 : Int), .int .u64 (lim q 3 : Int)] 24)).alloc (.cells #[.int .u64 (lim r 0 : Int), .int .u64 (lim r 1 : Int), .int .u64 (lim r 2 : Int), .int .u64 (lim r 3 : Int)] 24))
  obtain ⟨a0, a1, a2, a3⟩ := RA.four
  clear hb2
  go_wp2_with fail
  refine (H2.out _).mono ?_
  rintro e w3 ⟨rfl, hb3⟩
  clear a0 a1 a2 a3
  replace RA := (RA.nx hb3).alloc (.cells #[.int .u64 (lim s 0 : Int), .int .u64 (lim s 1 : Int), .int .u64 (lim s 2 : Int), .int .u64 (lim s 3 : Int)] 24)
  replace R1 := (R1.nx hb3).alloc (.cells #[.int .u64 (lim s 0 : Int), .int .u64 (lim s 1 : Int), .int .u64 (lim s 2 : Int), .int .u64 (lim s 3 : Int)] 24)
  replace R2 := (R2.nx hb3).alloc (.cells #[.int .u64 (lim s 0 : Int), .int .u64 (lim s 1 : Int), .int .u64 (lim s 2 : Int), .int .u64 (lim s 3 : Int)] 24)
  replace R3 := (R3.nx hb3).alloc (.cells #[.int .u64 (lim s 0 : Int), .int .u64 (lim s 1 : Int), .int .u64 (lim s 2 : Int), .int .u64 (lim s 3 : Int)] 24)
  replace R4 := (R4.nx hb3).alloc (.cells #[.int .u64 (lim s 0 : Int), .int .u64 (lim s 1 : Int), .int .u64 (lim s 2 : Int), .int .u64 (lim s 3 : Int)] 24)
  have R5 : Row (w3.alloc (.cells #[.int .u64 (lim s 0 : Int), .int .u64 (lim s 1 : Int), .int .u64 (lim s 2 : Int), .int .u64 (lim s 3 : Int)] 24)) w3.heap.size #[.int .u64 (lim s 0 : Int), .int .u64 (lim s 1 : Int), .int .u64 (lim s 2 : Int), .int .u64 (lim s 3 : Int)] 24 := Row.new w3 _ _ _ rfl
  replace N1 := Lib.hid (N1.out.trans hb3 |>.alloc (.cells #[.int .u64 (lim s 0 : Int), .int .u64 (lim s 1 : Int), .int .u64 (lim s 2 : Int), .int .u64 (lim s 3 : Int)] 24))
  obtain ⟨a0, a1, a2, a3⟩ := RA.four
  clear hb3
  go_wp2_with fail
  refine (G2.out _).mono ?_
  rintro e w4 ⟨rfl, hb4⟩
  clear a0 a1 a2 a3 RA
  replace R1 := (R1.nx hb4).alloc (.cells #[.int .u64 (lim s 0 : Int), .int .u64 (lim s 1 : Int), .int .u64 (lim s 2 : Int), .int .u64 (lim s 3 : Int)] 24)
  replace R2 := (R2.nx hb4).alloc (.cells #[.int .u64 (lim s 0 : Int), .int .u64 (lim s 1 : Int), .int .u64 (lim s 2 : Int), .int .u64 (lim s 3 : Int)] 24)
  replace R3 := (R3.nx hb4).alloc (.cells #[.int .u64 (lim s 0 : Int), .int .u64 (lim s 1 : Int), .int .u64 (lim s 2 : Int), .int .u64 (lim s 3 : Int)] 24)
  replace R4 := (R4.nx hb4).alloc (.cells #[.int .u64 (lim s 0 : Int), .int .u64 (lim s 1 : Int), .int .u64 (lim s 2 : Int), .int .u64 (lim s 3 : Int)] 24)
  replace R5 := (R5.nx hb4).alloc (.cells #[.int .u64 (lim s 0 : Int), .int .u64 (lim s 1 : Int), .int .u64 (lim s 2 : Int), .int .u64 (lim s 3 : Int)] 24)
  replace N1 := Lib.hid (N1.out.trans hb4 |>.alloc (.cells #[.int .u64 (lim s 0 : Int), .int .u64 (lim s 1 : Int), .int .u64 (lim s 2 : Int), .int .u64 (lim s 3 : Int)] 24))
  obtain ⟨c10, c11, c12, c13⟩ := R1.four
  obtain ⟨c20, c21, c22, c23⟩ := R2.four
  obtain ⟨c30, c31, c32, c33⟩ := R3.four
  obtain ⟨c40, c41, c42, c43⟩ := R4.four
  obtain ⟨c50, c51, c52, c53⟩ := R5.four
  clear hb4 R1 R2 R3 R4 R5
  go_wp2_with fail
  refine (lives3_any _).mono ?_
  rintro e w9 ⟨rfl, hb9⟩
  go_wp2
  go_ret
  exact ⟨rfl, N1.out.trans hb9⟩
end Go.Proofs.Ytggemncdnclhnaa
