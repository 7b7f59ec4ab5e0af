/- CONTRACTS OF LAYER 4: Of. -/
import Derived.Test.YtggemncdnclhnaaTar2
import Derived.Test.YtggemncdnclhnaaBig7
import Derived.Lib.QuietBelow
namespace Go.Proofs.Ytggemncdnclhnaa
open Go.RowKit
set_option linter.unusedVariables false
set_option linter.unusedSimpArgs false

theorem of_0 (w : World) : Calls Try.prog 15 #[.int .u64 0] w fun e w' => e = .returned (.agg #[.int .u64 0, .int .u64 0, .int .u64 0, .int .u64 0]) ∧ Nx w w' := by
  have h := of_any 0 w (by omega)
  obtain ⟨z0, z1, z2, z3⟩ := lim_nought
  rw [z0, z1, z2, z3] at h
  exact h
theorem eqU0 (t : Nat) (ht : t < top) (w : World) : (Op.equalIn 10000 24 (.agg #[.int .u64 (lim t 0 : Int), .int .u64 (lim t 1 : Int), .int .u64 (lim t 2 : Int), .int .u64 (lim t 3 : Int)]) (.agg #[.int .u64 0, .int .u64 0, .int .u64 0, .int .u64 0])).run Try.prog w = .ok (decide (t = 0)) w := by
  have h := eqU t 0 ht (by decide) w
  obtain ⟨z0, z1, z2, z3⟩ := lim_nought
  rw [z0, z1, z2, z3] at h
  exact h

set_option maxHeartbeats 4000000 in
theorem tof_case (b : Nat) (w : World) (hb : (b : Int) ≤ 4294967295) (p q : Bool) (hp : decide (tN b = 0) = p) (hq : decide (bN (tN b) = b) = q) :
    Calls Try.prog 40 #[.int .u32 (b : Int)] w fun e w' => e = .returned (.tuple #[.agg #[.int .u64 (lim (if p || !q then 0 else tN b) 0 : Int), .int .u64 (lim (if p || !q then 0 else tN b) 1 : Int), .int .u64 (lim (if p || !q then 0 else tN b) 2 : Int), .int .u64 (lim (if p || !q then 0 else tN b) 3 : Int)], .int .i64 (if p || !q then 5 else 0)]) ∧ Nx w w' := by
  have HT := Lib.hid (fun w => told_any b w hb)
  have HB := Lib.hid (fun w => tbits_any (tN b) w (tN_lt b))
  have heq : ∀ w, (Op.equalIn 10000 24 (.agg #[.int .u64 (lim (tN b) 0 : Int), .int .u64 (lim (tN b) 1 : Int), .int .u64 (lim (tN b) 2 : Int), .int .u64 (lim (tN b) 3 : Int)]) (.agg #[.int .u64 0, .int .u64 0, .int .u64 0, .int .u64 0])).run Try.prog w = .ok p w := fun w => by rw [eqU0 _ (tN_lt b) w, hp]
  have hne : (((bN (tN b) : Nat) : Int) == (b : Int)) = q := by
    rw [← hq, Bool.eq_iff_iff]
    simp only [beq_iff_eq, decide_eq_true_eq]
    omega
  have hne2 : (((bN (tN b) : Nat) : Int) != (b : Int)) = !q := by rw [← hne]; rfl
  obtain ⟨zz0, zz1, zz2, zz3⟩ := lim_nought
  clear hp hq
  generalize bN (tN b) = B at *
  generalize tN b = t at *
  go_enter Try.func40, Try.ntmps40
  go_wp2_with fail
  refine (HT.out _).mono ?_
  rintro e w1 ⟨rfl, hb1⟩
  have RZ := ((Row.new w #[.int .u64 0, .int .u64 0, .int .u64 0, .int .u64 0] 24 _ rfl).nx hb1).alloc (.cells #[.int .u64 (lim t 0 : Int), .int .u64 (lim t 1 : Int), .int .u64 (lim t 2 : Int), .int .u64 (lim t 3 : Int)] 24)
  have RT : Row (w1.alloc (.cells #[.int .u64 (lim t 0 : Int), .int .u64 (lim t 1 : Int), .int .u64 (lim t 2 : Int), .int .u64 (lim t 3 : Int)] 24)) w1.heap.size #[.int .u64 (lim t 0 : Int), .int .u64 (lim t 1 : Int), .int .u64 (lim t 2 : Int), .int .u64 (lim t 3 : Int)] 24 := Row.new w1 _ _ _ rfl
  have N1 := Lib.hid ((((Nx.refl w).alloc (.cells #[.int .u64 0, .int .u64 0, .int .u64 0, .int .u64 0] 24)).trans hb1).alloc (.cells #[.int .u64 (lim t 0 : Int), .int .u64 (lim t 1 : Int), .int .u64 (lim t 2 : Int), .int .u64 (lim t 3 : Int)] 24))
  clear hb1
  go_wp2_with fail
  generalize w1.heap.size = gT at *
  generalize (w1.alloc (.cells #[.int .u64 (lim t 0 : Int), .int .u64 (lim t 1 : Int), .int .u64 (lim t 2 : Int), .int .u64 (lim t 3 : Int)] 24)) = W at *
  have qt0 : ∀ d os, (Sort.grow (redrawn W d) os).cell? ⟨gT, 0, none⟩ = some (.int .u64 (lim t 0 : Int)) := fun d os => cell_regrown (RT.cell rfl) d os
  have qt1 : ∀ d os, (Sort.grow (redrawn W d) os).cell? ⟨gT, 1, none⟩ = some (.int .u64 (lim t 1 : Int)) := fun d os => cell_regrown (RT.cell rfl) d os
  have qt2 : ∀ d os, (Sort.grow (redrawn W d) os).cell? ⟨gT, 2, none⟩ = some (.int .u64 (lim t 2 : Int)) := fun d os => cell_regrown (RT.cell rfl) d os
  have qt3 : ∀ d os, (Sort.grow (redrawn W d) os).cell? ⟨gT, 3, none⟩ = some (.int .u64 (lim t 3 : Int)) := fun d os => cell_regrown (RT.cell rfl) d os
  rcases p with _ | _ <;> rcases q with _ | _
  all_goals
    refine wp_region_quiet_below (by kernel_rfl) (by kernel_rfl) ?_
    repeat (first
      | quiet_step ((first
        | (go_at_call 15; with_reducible exact Calls.regrown_of (of_0 _))
        | (go_at_call 44; with_reducible exact Calls.regrown_of (HB.out _)))))
    refine wpQuiet_nil ?_
    intro _ hw'
    obtain ⟨⟨dq, osq⟩, hw''⟩ := hw'
    subst hw''
    have HG := below_regrown W dq osq
    have RZ2 := Row.nx RZ HG
    have RT2 := Row.nx RT HG
    have N2 := Lib.hid (N1.out.trans HG)
    clear HG
    generalize Sort.grow (redrawn W dq) osq = W2 at *
    obtain ⟨z0, z1, z2, z3⟩ := RZ2.zero4
    obtain ⟨t0, t1, t2, t3⟩ := RT2.four
    have fz := RZ2.frozen
    clear qt0 qt1 qt2 qt3 RZ RT RZ2 RT2 N1
    go_wp2
  · exact bodyPost_ret (v := .tuple #[.agg #[.int .u64 0, .int .u64 0, .int .u64 0, .int .u64 0], .int .i64 5]) (by simp [results, Try.results40, go_sem, z0, z1, z2, z3, fz]) rfl
      ⟨by simp [zz0, zz1, zz2, zz3], by repeat (first | with_reducible exact N2.out | with_reducible refine Nx.setAt ?_ _ (by omega))⟩
  · exact bodyPost_ret (v := .tuple #[.agg #[.int .u64 (lim t 0 : Int), .int .u64 (lim t 1 : Int), .int .u64 (lim t 2 : Int), .int .u64 (lim t 3 : Int)], .int .i64 0]) (by simp [results, Try.results40, go_sem, z0, z1, z2, z3, fz]) rfl
      ⟨by simp, by repeat (first | with_reducible exact N2.out | with_reducible refine Nx.setAt ?_ _ (by omega))⟩
  · exact bodyPost_ret (v := .tuple #[.agg #[.int .u64 0, .int .u64 0, .int .u64 0, .int .u64 0], .int .i64 5]) (by simp [results, Try.results40, go_sem, z0, z1, z2, z3, fz]) rfl
      ⟨by simp [zz0, zz1, zz2, zz3], by repeat (first | with_reducible exact N2.out | with_reducible refine Nx.setAt ?_ _ (by omega))⟩
  · exact bodyPost_ret (v := .tuple #[.agg #[.int .u64 0, .int .u64 0, .int .u64 0, .int .u64 0], .int .i64 5]) (by simp [results, Try.results40, go_sem, z0, z1, z2, z3, fz]) rfl
      ⟨by simp [zz0, zz1, zz2, zz3], by repeat (first | with_reducible exact N2.out | with_reducible refine Nx.setAt ?_ _ (by omega))⟩

theorem tof_any (b : Nat) (w : World) (hb : (b : Int) ≤ 4294967295) :
    Calls Try.prog 40 #[.int .u32 (b : Int)] w fun e w' => e = .returned (.tuple #[.agg #[.int .u64 (lim (ofT b) 0 : Int), .int .u64 (lim (ofT b) 1 : Int), .int .u64 (lim (ofT b) 2 : Int), .int .u64 (lim (ofT b) 3 : Int)], .int .i64 (ofE b)]) ∧ Nx w w' := by
  have h := tof_case b w hb _ _ rfl rfl
  have e : (decide (tN b = 0) || !decide (bN (tN b) = b)) = decide (tN b = 0 ∨ bN (tN b) ≠ b) := by
    by_cases h1 : tN b = 0 <;> by_cases h2 : bN (tN b) = b <;> simp [h1, h2]
  rw [e] at h
  have e1 : (if decide (tN b = 0 ∨ bN (tN b) ≠ b) = true then 0 else tN b) = ofT b := by unfold ofT; simp only [decide_eq_true_eq]
  have e2 : (if decide (tN b = 0 ∨ bN (tN b) ≠ b) = true then (5 : Int) else 0) = ofE b := by unfold ofE; simp only [decide_eq_true_eq]
  rw [e1, e2] at h
  exact h
end Go.Proofs.Ytggemncdnclhnaa
