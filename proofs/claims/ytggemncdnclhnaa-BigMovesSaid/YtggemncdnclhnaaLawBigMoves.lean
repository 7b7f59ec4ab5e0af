/- LAYER 3: the walk of BigMoves. -/
import Derived.Test.YtggemncdnclhnaaBig7
import Derived.Test.YtggemncdnclhnaaRefMove
import Derived.Lib.QuietBelow
namespace Go.Proofs.Ytggemncdnclhnaa
open Go.RowKit
set_option linter.unusedVariables false
set_option linter.unusedSimpArgs false

theorem leftN_lt {a : Nat} (n : Int) (ha : a < top) : leftN a n < top := by
  unfold leftN
  split
  · exact ha
  · exact Nat.mod_lt _ (by decide)
theorem rightN_lt {a : Nat} (n : Int) (ha : a < top) : rightN a n < top := by
  unfold rightN
  split
  · exact ha
  · exact Nat.lt_of_le_of_lt (Nat.div_le_self _ _) ha

set_option maxHeartbeats 8000000 in
set_option maxRecDepth 100000 in
theorem bigMoves_law {w : World} (a : Nat) (ha : a < top) (n : Int) (hn0 : -9223372036854775808 ≤ n) (hn : n ≤ 9223372036854775807) :
    Calls Try.prog 7 #[.agg #[.int .u64 (lim a 0 : Int), .int .u64 (lim a 1 : Int), .int .u64 (lim a 2 : Int), .int .u64 (lim a 3 : Int)], .int .i64 n] w fun e w' => e = .returned (.bool true) ∧ Nx w w' := by
  have HL := fun w => left_any a n w hn
  have HR := fun w => right_any a n w ha hn
  have GL := fun w => refLeft_any a n w ha hn0 hn
  have GR := fun w => refRight_any a n w ha hn0 hn
  have he1 : ∀ w, (Op.equalIn 10000 24 (.agg #[.int .u64 (lim (leftN a n) 0 : Int), .int .u64 (lim (leftN a n) 1 : Int), .int .u64 (lim (leftN a n) 2 : Int), .int .u64 (lim (leftN a n) 3 : Int)]) (.agg #[.int .u64 (lim (leftN a n) 0 : Int), .int .u64 (lim (leftN a n) 1 : Int), .int .u64 (lim (leftN a n) 2 : Int), .int .u64 (lim (leftN a n) 3 : Int)])).run Try.prog w = .ok true w := fun w => by rw [eqU _ _ (leftN_lt n ha) (leftN_lt n ha) w]; simp
  have he2 : ∀ w, (Op.equalIn 10000 24 (.agg #[.int .u64 (lim (rightN a n) 0 : Int), .int .u64 (lim (rightN a n) 1 : Int), .int .u64 (lim (rightN a n) 2 : Int), .int .u64 (lim (rightN a n) 3 : Int)]) (.agg #[.int .u64 (lim (rightN a n) 0 : Int), .int .u64 (lim (rightN a n) 1 : Int), .int .u64 (lim (rightN a n) 2 : Int), .int .u64 (lim (rightN a n) 3 : Int)])).run Try.prog w = .ok true w := fun w => by rw [eqU _ _ (rightN_lt n ha) (rightN_lt n ha) w]; simp
  generalize leftN a n = s at *
  generalize rightN a n = d at *
  replace HL := Lib.hid HL
  replace HR := Lib.hid HR
  replace GL := Lib.hid GL
  replace GR := Lib.hid GR
  clear ha hn0 hn
  go_enter Try.func7, Try.ntmps7
  go_wp2_with fail
  have RA := Row.new w #[.int .u64 (lim a 0 : Int), .int .u64 (lim a 1 : Int), .int .u64 (lim a 2 : Int), .int .u64 (lim a 3 : Int)] 24 _ rfl
  have N1 := Lib.hid ((Nx.refl w).alloc (.cells #[.int .u64 (lim a 0 : Int), .int .u64 (lim a 1 : Int), .int .u64 (lim a 2 : Int), .int .u64 (lim a 3 : Int)] 24))
  generalize (w.alloc (.cells #[.int .u64 (lim a 0 : Int), .int .u64 (lim a 1 : Int), .int .u64 (lim a 2 : Int), .int .u64 (lim a 3 : Int)] 24)) = W at *
  have qa0 : ∀ d os, (Sort.grow (redrawn W d) os).cell? ⟨w.heap.size, 0, none⟩ = some (.int .u64 (lim a 0 : Int)) := fun d os => cell_regrown RA.four.1 d os
  have qa1 : ∀ d os, (Sort.grow (redrawn W d) os).cell? ⟨w.heap.size, 1, none⟩ = some (.int .u64 (lim a 1 : Int)) := fun d os => cell_regrown RA.four.2.1 d os
  have qa2 : ∀ d os, (Sort.grow (redrawn W d) os).cell? ⟨w.heap.size, 2, none⟩ = some (.int .u64 (lim a 2 : Int)) := fun d os => cell_regrown RA.four.2.2.1 d os
  have qa3 : ∀ d os, (Sort.grow (redrawn W d) os).cell? ⟨w.heap.size, 3, none⟩ = some (.int .u64 (lim a 3 : Int)) := fun d os => cell_regrown RA.four.2.2.2 d os
  clear RA
  refine wp_region_quiet_below (by kernel_rfl) (by kernel_rfl) ?_
  repeat (first
    | quiet_step ((first
      | (go_at_call 36; with_reducible exact Calls.regrown_of (HL.out _))
      | (go_at_call 38; with_reducible exact Calls.regrown_of (HR.out _))
      | (go_at_call 37; with_reducible exact Calls.regrown_of (GL.out _))
      | (go_at_call 39; with_reducible exact Calls.regrown_of (GR.out _))
      | (go_at_call 25; with_reducible exact Calls.regrown_of (lives3_any _)))))
  refine wpQuiet_nil ?_
  intro _ hw'
  obtain ⟨⟨dq, osq⟩, hw''⟩ := hw'
  subst hw''
  go_wp2
  go_ret
  exact ⟨rfl, N1.out.trans (below_regrown W dq osq)⟩
end Go.Proofs.Ytggemncdnclhnaa
