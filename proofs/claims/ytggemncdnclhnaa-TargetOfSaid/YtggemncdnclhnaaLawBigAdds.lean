/- LAYER 3: the walk of BigAdds. -/
import Derived.Test.YtggemncdnclhnaaBig7
import Derived.Lib.QuietBelow
import Derived.Test.YtggemncdnclhnaaRefAdd
namespace Go.Proofs.Ytggemncdnclhnaa
open Go.RowKit
set_option linter.unusedVariables false
set_option linter.unusedSimpArgs false

theorem refAdd_is (a b : Nat) (w : World) (ha : a < top) (hb : b < top) :
    Calls Try.prog 27 #[.agg #[.int .u64 (lim a 0 : Int), .int .u64 (lim a 1 : Int), .int .u64 (lim a 2 : Int), .int .u64 (lim a 3 : Int)], .agg #[.int .u64 (lim b 0 : Int), .int .u64 (lim b 1 : Int), .int .u64 (lim b 2 : Int), .int .u64 (lim b 3 : Int)]] w fun e w' => e = .returned (.tuple #[.agg #[.int .u64 (lim (addN a b) 0 : Int), .int .u64 (lim (addN a b) 1 : Int), .int .u64 (lim (addN a b) 2 : Int), .int .u64 (lim (addN a b) 3 : Int)], .bool (addB a b)]) ∧ Nx w w' := by
  have h := refAdd_any a b w ha hb
  obtain ⟨e0, e1, e2, e3, _⟩ := add_facts a b ha hb
  simp only [Nat.add_zero] at e0 e1 e2 e3
  rw [e0, e1, e2, e3] at h
  exact h
theorem refSub_is (a b : Nat) (w : World) (ha : a < top) (hb : b < top) :
    Calls Try.prog 29 #[.agg #[.int .u64 (lim a 0 : Int), .int .u64 (lim a 1 : Int), .int .u64 (lim a 2 : Int), .int .u64 (lim a 3 : Int)], .agg #[.int .u64 (lim b 0 : Int), .int .u64 (lim b 1 : Int), .int .u64 (lim b 2 : Int), .int .u64 (lim b 3 : Int)]] w fun e w' => e = .returned (.tuple #[.agg #[.int .u64 (lim (subN a b) 0 : Int), .int .u64 (lim (subN a b) 1 : Int), .int .u64 (lim (subN a b) 2 : Int), .int .u64 (lim (subN a b) 3 : Int)], .bool (subB a b)]) ∧ Nx w w' := by
  have h := refSub_any a b w ha hb
  obtain ⟨e0, e1, e2, e3, _⟩ := sub_facts a b ha hb
  rw [e0, e1, e2, e3] at h
  exact h

set_option maxHeartbeats 8000000 in
set_option maxRecDepth 100000 in
theorem bigAdds_law {w : World} (a : Nat) (ha : a < top) (b : Nat) (hb : b < top) :
    Calls Try.prog 4 #[.agg #[.int .u64 (lim a 0 : Int), .int .u64 (lim a 1 : Int), .int .u64 (lim a 2 : Int), .int .u64 (lim a 3 : Int)], .agg #[.int .u64 (lim b 0 : Int), .int .u64 (lim b 1 : Int), .int .u64 (lim b 2 : Int), .int .u64 (lim b 3 : Int)]] w fun e w' => e = .returned (.bool true) ∧ Nx w w' := by
  have HADD := fun w => add_any a b w ha hb
  have HSUB := fun w => sub_any a b w ha hb
  have GADD := fun w => refAdd_is a b w ha hb
  have GSUB := fun w => refSub_is a b w ha hb
  have he1 : ∀ w, (Op.equalIn 10000 24 (.agg #[.int .u64 (lim (addN a b) 0 : Int), .int .u64 (lim (addN a b) 1 : Int), .int .u64 (lim (addN a b) 2 : Int), .int .u64 (lim (addN a b) 3 : Int)]) (.agg #[.int .u64 (lim (addN a b) 0 : Int), .int .u64 (lim (addN a b) 1 : Int), .int .u64 (lim (addN a b) 2 : Int), .int .u64 (lim (addN a b) 3 : Int)])).run Try.prog w = .ok true w := fun w => by rw [eqU _ _ (addN_lt a b) (addN_lt a b) w]; simp
  have he2 : ∀ w, (Op.equalIn 10000 24 (.agg #[.int .u64 (lim (subN a b) 0 : Int), .int .u64 (lim (subN a b) 1 : Int), .int .u64 (lim (subN a b) 2 : Int), .int .u64 (lim (subN a b) 3 : Int)]) (.agg #[.int .u64 (lim (subN a b) 0 : Int), .int .u64 (lim (subN a b) 1 : Int), .int .u64 (lim (subN a b) 2 : Int), .int .u64 (lim (subN a b) 3 : Int)])).run Try.prog w = .ok true w := fun w => by rw [eqU _ _ (subN_lt ha hb) (subN_lt ha hb) w]; simp
  generalize addB a b = p at *
  generalize addN a b = s at *
  generalize subB a b = q at *
  generalize subN a b = d at *
  replace HADD := Lib.hid HADD
  replace HSUB := Lib.hid HSUB
  replace GADD := Lib.hid GADD
  replace GSUB := Lib.hid GSUB
  clear ha hb
  go_enter Try.func4, Try.ntmps4
  go_wp2_with fail
  refine (HADD.out _).mono ?_
  rintro e w1 ⟨rfl, hb1⟩
  have RA := (((Row.new w #[.int .u64 (lim a 0 : Int), .int .u64 (lim a 1 : Int), .int .u64 (lim a 2 : Int), .int .u64 (lim a 3 : Int)] 24 _ rfl).alloc (.cells #[.int .u64 (lim b 0 : Int), .int .u64 (lim b 1 : Int), .int .u64 (lim b 2 : Int), .int .u64 (lim b 3 : Int)] 24)).nx hb1).alloc (.cells #[.int .u64 (lim s 0 : Int), .int .u64 (lim s 1 : Int), .int .u64 (lim s 2 : Int), .int .u64 (lim s 3 : Int)] 24)
  have RB := ((Row.new2 w (.cells #[.int .u64 (lim a 0 : Int), .int .u64 (lim a 1 : Int), .int .u64 (lim a 2 : Int), .int .u64 (lim a 3 : Int)] 24) #[.int .u64 (lim b 0 : Int), .int .u64 (lim b 1 : Int), .int .u64 (lim b 2 : Int), .int .u64 (lim b 3 : Int)] 24).nx hb1).alloc (.cells #[.int .u64 (lim s 0 : Int), .int .u64 (lim s 1 : Int), .int .u64 (lim s 2 : Int), .int .u64 (lim s 3 : Int)] 24)
  have RX : Row (w1.alloc (.cells #[.int .u64 (lim s 0 : Int), .int .u64 (lim s 1 : Int), .int .u64 (lim s 2 : Int), .int .u64 (lim s 3 : Int)] 24)) w1.heap.size #[.int .u64 (lim s 0 : Int), .int .u64 (lim s 1 : Int), .int .u64 (lim s 2 : Int), .int .u64 (lim s 3 : Int)] 24 := Row.new w1 _ _ _ rfl
  have N1 := Lib.hid ((((Nx.refl w).alloc _).alloc _).trans hb1 |>.alloc (.cells #[.int .u64 (lim s 0 : Int), .int .u64 (lim s 1 : Int), .int .u64 (lim s 2 : Int), .int .u64 (lim s 3 : Int)] 24))
  obtain ⟨a0, a1, a2, a3⟩ := RA.four
  obtain ⟨b0, b1, b2, b3⟩ := RB.four
  clear hb1
  go_wp2_with fail
  refine (GADD.out _).mono ?_
  rintro e w2 ⟨rfl, hb2⟩
  clear a0 a1 a2 a3 b0 b1 b2 b3
  replace RA := (RA.nx hb2).alloc (.cells #[.int .u64 (lim s 0 : Int), .int .u64 (lim s 1 : Int), .int .u64 (lim s 2 : Int), .int .u64 (lim s 3 : Int)] 24)
  replace RB := (RB.nx hb2).alloc (.cells #[.int .u64 (lim s 0 : Int), .int .u64 (lim s 1 : Int), .int .u64 (lim s 2 : Int), .int .u64 (lim s 3 : Int)] 24)
  replace RX := (RX.nx hb2).alloc (.cells #[.int .u64 (lim s 0 : Int), .int .u64 (lim s 1 : Int), .int .u64 (lim s 2 : Int), .int .u64 (lim s 3 : Int)] 24)
  have RY : Row (w2.alloc (.cells #[.int .u64 (lim s 0 : Int), .int .u64 (lim s 1 : Int), .int .u64 (lim s 2 : Int), .int .u64 (lim s 3 : Int)] 24)) w2.heap.size #[.int .u64 (lim s 0 : Int), .int .u64 (lim s 1 : Int), .int .u64 (lim s 2 : Int), .int .u64 (lim s 3 : Int)] 24 := Row.new w2 _ _ _ rfl
  replace N1 := Lib.hid ((N1.out.trans hb2).alloc (.cells #[.int .u64 (lim s 0 : Int), .int .u64 (lim s 1 : Int), .int .u64 (lim s 2 : Int), .int .u64 (lim s 3 : Int)] 24))
  obtain ⟨a0, a1, a2, a3⟩ := RA.four
  obtain ⟨b0, b1, b2, b3⟩ := RB.four
  clear hb2
  go_wp2_with fail
  refine (HSUB.out _).mono ?_
  rintro e w3 ⟨rfl, hb3⟩
  clear a0 a1 a2 a3 b0 b1 b2 b3
  replace RA := (RA.nx hb3).alloc (.cells #[.int .u64 (lim d 0 : Int), .int .u64 (lim d 1 : Int), .int .u64 (lim d 2 : Int), .int .u64 (lim d 3 : Int)] 24)
  replace RB := (RB.nx hb3).alloc (.cells #[.int .u64 (lim d 0 : Int), .int .u64 (lim d 1 : Int), .int .u64 (lim d 2 : Int), .int .u64 (lim d 3 : Int)] 24)
  replace RX := (RX.nx hb3).alloc (.cells #[.int .u64 (lim d 0 : Int), .int .u64 (lim d 1 : Int), .int .u64 (lim d 2 : Int), .int .u64 (lim d 3 : Int)] 24)
  replace RY := (RY.nx hb3).alloc (.cells #[.int .u64 (lim d 0 : Int), .int .u64 (lim d 1 : Int), .int .u64 (lim d 2 : Int), .int .u64 (lim d 3 : Int)] 24)
  have RZ : Row (w3.alloc (.cells #[.int .u64 (lim d 0 : Int), .int .u64 (lim d 1 : Int), .int .u64 (lim d 2 : Int), .int .u64 (lim d 3 : Int)] 24)) w3.heap.size #[.int .u64 (lim d 0 : Int), .int .u64 (lim d 1 : Int), .int .u64 (lim d 2 : Int), .int .u64 (lim d 3 : Int)] 24 := Row.new w3 _ _ _ rfl
  replace N1 := Lib.hid ((N1.out.trans hb3).alloc (.cells #[.int .u64 (lim d 0 : Int), .int .u64 (lim d 1 : Int), .int .u64 (lim d 2 : Int), .int .u64 (lim d 3 : Int)] 24))
  obtain ⟨a0, a1, a2, a3⟩ := RA.four
  obtain ⟨b0, b1, b2, b3⟩ := RB.four
  clear hb3
  go_wp2_with fail
  refine (GSUB.out _).mono ?_
  rintro e w4 ⟨rfl, hb4⟩
  clear a0 a1 a2 a3 b0 b1 b2 b3
  replace RX := (RX.nx hb4).alloc (.cells #[.int .u64 (lim d 0 : Int), .int .u64 (lim d 1 : Int), .int .u64 (lim d 2 : Int), .int .u64 (lim d 3 : Int)] 24)
  replace RY := (RY.nx hb4).alloc (.cells #[.int .u64 (lim d 0 : Int), .int .u64 (lim d 1 : Int), .int .u64 (lim d 2 : Int), .int .u64 (lim d 3 : Int)] 24)
  replace RZ := (RZ.nx hb4).alloc (.cells #[.int .u64 (lim d 0 : Int), .int .u64 (lim d 1 : Int), .int .u64 (lim d 2 : Int), .int .u64 (lim d 3 : Int)] 24)
  replace N1 := Lib.hid ((N1.out.trans hb4).alloc (.cells #[.int .u64 (lim d 0 : Int), .int .u64 (lim d 1 : Int), .int .u64 (lim d 2 : Int), .int .u64 (lim d 3 : Int)] 24))
  obtain ⟨x0, x1, x2, x3⟩ := RX.four
  obtain ⟨y0, y1, y2, y3⟩ := RY.four
  obtain ⟨z0, z1, z2, z3⟩ := RZ.four
  clear hb4
  cases p <;> cases q
  all_goals
    go_wp2_with fail
    refine (lives3_any _).mono ?_
    rintro e w5 ⟨rfl, hb5⟩
    go_wp2
    go_ret
    exact ⟨rfl, N1.out.trans hb5⟩
end Go.Proofs.Ytggemncdnclhnaa
