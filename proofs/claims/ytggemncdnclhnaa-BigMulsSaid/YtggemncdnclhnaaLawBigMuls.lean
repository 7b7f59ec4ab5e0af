/- LAYER 3: the walk of BigMuls. -/
import Derived.Test.YtggemncdnclhnaaBig7
import Derived.Test.YtggemncdnclhnaaRefMul
namespace Go.Proofs.Ytggemncdnclhnaa
open Go.RowKit
set_option linter.unusedVariables false
set_option linter.unusedSimpArgs false

theorem mulN_lt (a n : Nat) : mulN a n < top := Nat.mod_lt _ (by decide)
theorem refMul_is (a n : Nat) (w : World) (ha : a < top) (hn : (n : Int) ≤ 18446744073709551615) :
    Calls Try.prog 31 #[.agg #[.int .u64 (lim a 0 : Int), .int .u64 (lim a 1 : Int), .int .u64 (lim a 2 : Int), .int .u64 (lim a 3 : Int)], .int .u64 (n : Int)] w fun e w' => e = .returned (.tuple #[.agg #[.int .u64 (lim (mulN a n) 0 : Int), .int .u64 (lim (mulN a n) 1 : Int), .int .u64 (lim (mulN a n) 2 : Int), .int .u64 (lim (mulN a n) 3 : Int)], .int .u64 (mulH a n : Int)]) ∧ Nx w w' := by
  have h := refMul_any a n w ha hn
  obtain ⟨e0, e1, e2, e3⟩ := mul_lims a n
  rw [e0, e1, e2, e3] at h
  exact h

set_option maxHeartbeats 8000000 in
set_option maxRecDepth 100000 in
theorem bigMuls_law {w : World} (a : Nat) (ha : a < top) (n : Nat) (hn : (n : Int) ≤ 18446744073709551615) :
    Calls Try.prog 5 #[.agg #[.int .u64 (lim a 0 : Int), .int .u64 (lim a 1 : Int), .int .u64 (lim a 2 : Int), .int .u64 (lim a 3 : Int)], .int .u64 (n : Int)] w fun e w' => e = .returned (.bool true) ∧ Nx w w' := by
  have HM := fun w => mul_any a n w ha hn
  have GM := fun w => refMul_is a n w ha hn
  have he1 : ∀ w, (Op.equalIn 10000 24 (.agg #[.int .u64 (lim (mulN a n) 0 : Int), .int .u64 (lim (mulN a n) 1 : Int), .int .u64 (lim (mulN a n) 2 : Int), .int .u64 (lim (mulN a n) 3 : Int)]) (.agg #[.int .u64 (lim (mulN a n) 0 : Int), .int .u64 (lim (mulN a n) 1 : Int), .int .u64 (lim (mulN a n) 2 : Int), .int .u64 (lim (mulN a n) 3 : Int)])).run Try.prog w = .ok true w := fun w => by rw [eqU _ _ (mulN_lt a n) (mulN_lt a n) w]; simp
  generalize mulN a n = s at *
  generalize mulH a n = h at *
  replace HM := Lib.hid HM
  replace GM := Lib.hid GM
  clear ha
  go_enter Try.func5, Try.ntmps5
  go_wp2_with fail
  refine (HM.out _).mono ?_
  rintro e w1 ⟨rfl, hb1⟩
  have RA := ((Row.new w #[.int .u64 (lim a 0 : Int), .int .u64 (lim a 1 : Int), .int .u64 (lim a 2 : Int), .int .u64 (lim a 3 : Int)] 24 _ rfl).nx hb1).alloc (.cells #[.int .u64 (lim s 0 : Int), .int .u64 (lim s 1 : Int), .int .u64 (lim s 2 : Int), .int .u64 (lim s 3 : Int)] 24)
  have RX : Row (w1.alloc (.cells #[.int .u64 (lim s 0 : Int), .int .u64 (lim s 1 : Int), .int .u64 (lim s 2 : Int), .int .u64 (lim s 3 : Int)] 24)) w1.heap.size #[.int .u64 (lim s 0 : Int), .int .u64 (lim s 1 : Int), .int .u64 (lim s 2 : Int), .int .u64 (lim s 3 : Int)] 24 := Row.new w1 _ _ _ rfl
  have N1 := Lib.hid (((Nx.refl w).alloc _).trans hb1 |>.alloc (.cells #[.int .u64 (lim s 0 : Int), .int .u64 (lim s 1 : Int), .int .u64 (lim s 2 : Int), .int .u64 (lim s 3 : Int)] 24))
  obtain ⟨a0, a1, a2, a3⟩ := RA.four
  clear hb1
  go_wp2_with fail
  refine (GM.out _).mono ?_
  rintro e w2 ⟨rfl, hb2⟩
  clear a0 a1 a2 a3
  replace RX := (RX.nx hb2).alloc (.cells #[.int .u64 (lim s 0 : Int), .int .u64 (lim s 1 : Int), .int .u64 (lim s 2 : Int), .int .u64 (lim s 3 : Int)] 24)
  replace N1 := Lib.hid ((N1.out.trans hb2).alloc (.cells #[.int .u64 (lim s 0 : Int), .int .u64 (lim s 1 : Int), .int .u64 (lim s 2 : Int), .int .u64 (lim s 3 : Int)] 24))
  obtain ⟨x0, x1, x2, x3⟩ := RX.four
  clear hb2
  go_wp2_with fail
  refine (lives3_any _).mono ?_
  rintro e w5 ⟨rfl, hb5⟩
  go_wp2
  go_ret
  exact ⟨rfl, N1.out.trans hb5⟩
end Go.Proofs.Ytggemncdnclhnaa
