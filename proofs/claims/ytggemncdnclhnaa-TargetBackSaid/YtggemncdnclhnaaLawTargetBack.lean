/- LAYER 4: the walk of TargetBack. -/
import Derived.Test.YtggemncdnclhnaaLawTargetWork
import Derived.Test.YtggemncdnclhnaaTarPure2
namespace Go.Proofs.Ytggemncdnclhnaa
open Go.RowKit
set_option linter.unusedVariables false
set_option linter.unusedSimpArgs false

set_option maxHeartbeats 16000000 in
set_option maxRecDepth 100000 in
theorem targetBack_ok {w : World} (b : Nat) (hb : (b : Int) ≤ 4294967295) (t : Nat) (ht : t < top) (he : ofE b = 0) :
    Calls Try.prog 12 #[.int .u32 (b : Int), .agg #[.int .u64 (lim t 0 : Int), .int .u64 (lim t 1 : Int), .int .u64 (lim t 2 : Int), .int .u64 (lim t 3 : Int)]] w fun e w' => e = .returned (.bool true) ∧ Nx w w' := by
  have HO := Lib.hid (fun w => tof_any b w hb)
  rw [he] at HO
  obtain ⟨ho1, ho2⟩ := ofE_back b he
  rw [ho1] at HO
  have HBA := Lib.hid (fun w => tbits_any (tN b) w (tN_lt b))
  rw [ho2] at HBA
  clear ho1 ho2
  generalize tN b = a at *
  have HBT := Lib.hid (fun w => tbits_any t w ht)
  have heq := fun w => eqU0 t ht w
  clear he
  by_cases h0 : t = 0
  · rw [decide_eq_true h0] at heq
    have HZ : Hid (bN t = 0) := Lib.hid (by rw [h0]; exact bN_zero)
    rw [HZ.out] at HBT
    replace HBT : Hid (∀ w, Calls Try.prog 44 #[.agg #[.int .u64 (lim t 0 : Int), .int .u64 (lim t 1 : Int), .int .u64 (lim t 2 : Int), .int .u64 (lim t 3 : Int)]] w fun e w' => e = .returned (.int .u32 0) ∧ Nx w w') := HBT
    clear HZ
    replace h0 := Lib.hid h0
    go_enter Try.func12, Try.ntmps12
    go_wp2_with fail
    refine (HO.out _).mono ?_
    rintro e w1 ⟨rfl, hb1⟩
    have R3 := ((Row.new w #[.int .u64 (lim t 0 : Int), .int .u64 (lim t 1 : Int), .int .u64 (lim t 2 : Int), .int .u64 (lim t 3 : Int)] 24 _ rfl).nx hb1).alloc (.cells #[.int .u64 (lim a 0 : Int), .int .u64 (lim a 1 : Int), .int .u64 (lim a 2 : Int), .int .u64 (lim a 3 : Int)] 24)
    have R5 : Row (w1.alloc (.cells #[.int .u64 (lim a 0 : Int), .int .u64 (lim a 1 : Int), .int .u64 (lim a 2 : Int), .int .u64 (lim a 3 : Int)] 24)) w1.heap.size #[.int .u64 (lim a 0 : Int), .int .u64 (lim a 1 : Int), .int .u64 (lim a 2 : Int), .int .u64 (lim a 3 : Int)] 24 := Row.new w1 _ _ _ rfl
    have N1 := Lib.hid ((((Nx.refl w).alloc (.cells #[.int .u64 (lim t 0 : Int), .int .u64 (lim t 1 : Int), .int .u64 (lim t 2 : Int), .int .u64 (lim t 3 : Int)] 24)).trans hb1).alloc (.cells #[.int .u64 (lim a 0 : Int), .int .u64 (lim a 1 : Int), .int .u64 (lim a 2 : Int), .int .u64 (lim a 3 : Int)] 24))
    clear hb1
    go_wp2_with fail
    refine (HBA.out _).mono ?_
    rintro e w2 ⟨rfl, hb2⟩
    replace R3 := R3.nx hb2
    replace N1 := Lib.hid (N1.out.trans hb2)
    clear hb2
    obtain ⟨t0, t1, t2, t3⟩ := R3.four
    go_wp2_with fail
    refine (HBT.out _).mono ?_
    rintro e w3 ⟨rfl, hb3⟩
    replace N1 := Lib.hid (N1.out.trans hb3)
    clear hb3 t0 t1 t2 t3
    go_wp2_with fail
    refine (lives4_any _).mono ?_
    rintro e w9 ⟨rfl, hb9⟩
    go_wp2
    go_ret
    exact ⟨rfl, N1.out.trans hb9⟩
  · rw [decide_eq_false h0] at heq
    obtain ⟨k1, k2, k3, k4⟩ := ofE_bN t h0 ht
    have HBL := bN_lt t ht
    have HO2 := Lib.hid (fun w => tof_any (bN t) w (by omega))
    rw [k1, k2] at HO2
    have HLE := Lib.hid (fun w => less_of t (tN (bN t)) false w ht (tN_lt _) (by unfold subB; simp; omega))
    have HB2 := Lib.hid (fun w => tbits_any (tN (bN t)) w (tN_lt _))
    rw [k4] at HB2
    clear k1 k2 k3 k4
    generalize tN (bN t) = t' at *
    generalize bN t = B at *
    replace h0 := Lib.hid h0
    replace HBL := Lib.hid HBL
    go_enter Try.func12, Try.ntmps12
    go_wp2_with fail
    refine (HO.out _).mono ?_
    rintro e w1 ⟨rfl, hb1⟩
    have R3 := ((Row.new w #[.int .u64 (lim t 0 : Int), .int .u64 (lim t 1 : Int), .int .u64 (lim t 2 : Int), .int .u64 (lim t 3 : Int)] 24 _ rfl).nx hb1).alloc (.cells #[.int .u64 (lim a 0 : Int), .int .u64 (lim a 1 : Int), .int .u64 (lim a 2 : Int), .int .u64 (lim a 3 : Int)] 24)
    have R5 : Row (w1.alloc (.cells #[.int .u64 (lim a 0 : Int), .int .u64 (lim a 1 : Int), .int .u64 (lim a 2 : Int), .int .u64 (lim a 3 : Int)] 24)) w1.heap.size #[.int .u64 (lim a 0 : Int), .int .u64 (lim a 1 : Int), .int .u64 (lim a 2 : Int), .int .u64 (lim a 3 : Int)] 24 := Row.new w1 _ _ _ rfl
    have N1 := Lib.hid ((((Nx.refl w).alloc (.cells #[.int .u64 (lim t 0 : Int), .int .u64 (lim t 1 : Int), .int .u64 (lim t 2 : Int), .int .u64 (lim t 3 : Int)] 24)).trans hb1).alloc (.cells #[.int .u64 (lim a 0 : Int), .int .u64 (lim a 1 : Int), .int .u64 (lim a 2 : Int), .int .u64 (lim a 3 : Int)] 24))
    clear hb1
    go_wp2_with fail
    refine (HBA.out _).mono ?_
    rintro e w2 ⟨rfl, hb2⟩
    replace R3 := R3.nx hb2
    replace N1 := Lib.hid (N1.out.trans hb2)
    clear hb2
    obtain ⟨t0, t1, t2, t3⟩ := R3.four
    go_wp2_with fail
    refine (HBT.out _).mono ?_
    rintro e w3 ⟨rfl, hb3⟩
    replace R3 := R3.nx hb3
    replace N1 := Lib.hid (N1.out.trans hb3)
    clear hb3 t0 t1 t2 t3
    go_wp2_with fail
    refine (HO2.out _).mono ?_
    rintro e w4 ⟨rfl, hb4⟩
    replace R3 := (R3.nx hb4).alloc (.cells #[.int .u64 (lim t' 0 : Int), .int .u64 (lim t' 1 : Int), .int .u64 (lim t' 2 : Int), .int .u64 (lim t' 3 : Int)] 24)
    have R7 : Row (w4.alloc (.cells #[.int .u64 (lim t' 0 : Int), .int .u64 (lim t' 1 : Int), .int .u64 (lim t' 2 : Int), .int .u64 (lim t' 3 : Int)] 24)) w4.heap.size #[.int .u64 (lim t' 0 : Int), .int .u64 (lim t' 1 : Int), .int .u64 (lim t' 2 : Int), .int .u64 (lim t' 3 : Int)] 24 := Row.new w4 _ _ _ rfl
    replace N1 := Lib.hid ((N1.out.trans hb4).alloc (.cells #[.int .u64 (lim t' 0 : Int), .int .u64 (lim t' 1 : Int), .int .u64 (lim t' 2 : Int), .int .u64 (lim t' 3 : Int)] 24))
    clear hb4
    go_wp2_with fail
    generalize w4.heap.size = g7 at *
    generalize (w4.alloc (.cells #[.int .u64 (lim t' 0 : Int), .int .u64 (lim t' 1 : Int), .int .u64 (lim t' 2 : Int), .int .u64 (lim t' 3 : Int)] 24)) = W at *
    have qt0 : ∀ d os, (Sort.grow (redrawn W d) os).cell? ⟨w.heap.size, 0, none⟩ = some (.int .u64 (lim t 0 : Int)) := fun d os => cell_regrown (R3.cell rfl) d os
    have qs0 : ∀ d os, (Sort.grow (redrawn W d) os).cell? ⟨g7, 0, none⟩ = some (.int .u64 (lim t' 0 : Int)) := fun d os => cell_regrown (R7.cell rfl) d os
    have qt1 : ∀ d os, (Sort.grow (redrawn W d) os).cell? ⟨w.heap.size, 1, none⟩ = some (.int .u64 (lim t 1 : Int)) := fun d os => cell_regrown (R3.cell rfl) d os
    have qs1 : ∀ d os, (Sort.grow (redrawn W d) os).cell? ⟨g7, 1, none⟩ = some (.int .u64 (lim t' 1 : Int)) := fun d os => cell_regrown (R7.cell rfl) d os
    have qt2 : ∀ d os, (Sort.grow (redrawn W d) os).cell? ⟨w.heap.size, 2, none⟩ = some (.int .u64 (lim t 2 : Int)) := fun d os => cell_regrown (R3.cell rfl) d os
    have qs2 : ∀ d os, (Sort.grow (redrawn W d) os).cell? ⟨g7, 2, none⟩ = some (.int .u64 (lim t' 2 : Int)) := fun d os => cell_regrown (R7.cell rfl) d os
    have qt3 : ∀ d os, (Sort.grow (redrawn W d) os).cell? ⟨w.heap.size, 3, none⟩ = some (.int .u64 (lim t 3 : Int)) := fun d os => cell_regrown (R3.cell rfl) d os
    have qs3 : ∀ d os, (Sort.grow (redrawn W d) os).cell? ⟨g7, 3, none⟩ = some (.int .u64 (lim t' 3 : Int)) := fun d os => cell_regrown (R7.cell rfl) d os
    clear R3 R5 R7
    refine wp_region_quiet_below (by kernel_rfl) (by kernel_rfl) ?_
    repeat (first
      | quiet_step ((first
        | (go_at_call 22; with_reducible exact Calls.regrown_of (HLE.out _))
        | (go_at_call 44; (first | with_reducible exact Calls.regrown_of (HB2.out _) | with_reducible exact Calls.regrown_of (HBT.out _)))
        | (go_at_call 46; with_reducible exact Calls.regrown_of (lives4_any _)))))
    refine wpQuiet_nil ?_
    intro _ hw'
    obtain ⟨⟨dq, osq⟩, hw''⟩ := hw'
    subst hw''
    go_wp2
    go_ret
    exact ⟨rfl, N1.out.trans (below_regrown W dq osq)⟩

set_option maxHeartbeats 16000000 in
set_option maxRecDepth 100000 in
theorem targetBack_bad {w : World} (b : Nat) (hb : (b : Int) ≤ 4294967295) (t : Nat) (ht : t < top) (he : ofE b = 5) :
    Calls Try.prog 12 #[.int .u32 (b : Int), .agg #[.int .u64 (lim t 0 : Int), .int .u64 (lim t 1 : Int), .int .u64 (lim t 2 : Int), .int .u64 (lim t 3 : Int)]] w fun e w' => e = .returned (.bool true) ∧ Nx w w' := by
  have HO := Lib.hid (fun w => tof_any b w hb)
  rw [he] at HO
  generalize ofT b = a at *
  have HBT := Lib.hid (fun w => tbits_any t w ht)
  have heq := fun w => eqU0 t ht w
  clear he
  by_cases h0 : t = 0
  · rw [decide_eq_true h0] at heq
    have HZ : Hid (bN t = 0) := Lib.hid (by rw [h0]; exact bN_zero)
    rw [HZ.out] at HBT
    replace HBT : Hid (∀ w, Calls Try.prog 44 #[.agg #[.int .u64 (lim t 0 : Int), .int .u64 (lim t 1 : Int), .int .u64 (lim t 2 : Int), .int .u64 (lim t 3 : Int)]] w fun e w' => e = .returned (.int .u32 0) ∧ Nx w w') := HBT
    clear HZ
    replace h0 := Lib.hid h0
    go_enter Try.func12, Try.ntmps12
    go_wp2_with fail
    refine (HO.out _).mono ?_
    rintro e w1 ⟨rfl, hb1⟩
    have R3 := ((Row.new w #[.int .u64 (lim t 0 : Int), .int .u64 (lim t 1 : Int), .int .u64 (lim t 2 : Int), .int .u64 (lim t 3 : Int)] 24 _ rfl).nx hb1).alloc (.cells #[.int .u64 (lim a 0 : Int), .int .u64 (lim a 1 : Int), .int .u64 (lim a 2 : Int), .int .u64 (lim a 3 : Int)] 24)
    have R5 : Row (w1.alloc (.cells #[.int .u64 (lim a 0 : Int), .int .u64 (lim a 1 : Int), .int .u64 (lim a 2 : Int), .int .u64 (lim a 3 : Int)] 24)) w1.heap.size #[.int .u64 (lim a 0 : Int), .int .u64 (lim a 1 : Int), .int .u64 (lim a 2 : Int), .int .u64 (lim a 3 : Int)] 24 := Row.new w1 _ _ _ rfl
    have N1 := Lib.hid ((((Nx.refl w).alloc (.cells #[.int .u64 (lim t 0 : Int), .int .u64 (lim t 1 : Int), .int .u64 (lim t 2 : Int), .int .u64 (lim t 3 : Int)] 24)).trans hb1).alloc (.cells #[.int .u64 (lim a 0 : Int), .int .u64 (lim a 1 : Int), .int .u64 (lim a 2 : Int), .int .u64 (lim a 3 : Int)] 24))
    clear hb1
    obtain ⟨t0, t1, t2, t3⟩ := R3.four
    go_wp2_with fail
    refine (HBT.out _).mono ?_
    rintro e w3 ⟨rfl, hb3⟩
    replace N1 := Lib.hid (N1.out.trans hb3)
    clear hb3 t0 t1 t2 t3
    go_wp2_with fail
    refine (lives4_any _).mono ?_
    rintro e w9 ⟨rfl, hb9⟩
    go_wp2
    go_ret
    exact ⟨rfl, N1.out.trans hb9⟩
  · rw [decide_eq_false h0] at heq
    obtain ⟨k1, k2, k3, k4⟩ := ofE_bN t h0 ht
    have HBL := bN_lt t ht
    have HO2 := Lib.hid (fun w => tof_any (bN t) w (by omega))
    rw [k1, k2] at HO2
    have HLE := Lib.hid (fun w => less_of t (tN (bN t)) false w ht (tN_lt _) (by unfold subB; simp; omega))
    have HB2 := Lib.hid (fun w => tbits_any (tN (bN t)) w (tN_lt _))
    rw [k4] at HB2
    clear k1 k2 k3 k4
    generalize tN (bN t) = t' at *
    generalize bN t = B at *
    replace h0 := Lib.hid h0
    replace HBL := Lib.hid HBL
    go_enter Try.func12, Try.ntmps12
    go_wp2_with fail
    refine (HO.out _).mono ?_
    rintro e w1 ⟨rfl, hb1⟩
    have R3 := ((Row.new w #[.int .u64 (lim t 0 : Int), .int .u64 (lim t 1 : Int), .int .u64 (lim t 2 : Int), .int .u64 (lim t 3 : Int)] 24 _ rfl).nx hb1).alloc (.cells #[.int .u64 (lim a 0 : Int), .int .u64 (lim a 1 : Int), .int .u64 (lim a 2 : Int), .int .u64 (lim a 3 : Int)] 24)
    have R5 : Row (w1.alloc (.cells #[.int .u64 (lim a 0 : Int), .int .u64 (lim a 1 : Int), .int .u64 (lim a 2 : Int), .int .u64 (lim a 3 : Int)] 24)) w1.heap.size #[.int .u64 (lim a 0 : Int), .int .u64 (lim a 1 : Int), .int .u64 (lim a 2 : Int), .int .u64 (lim a 3 : Int)] 24 := Row.new w1 _ _ _ rfl
    have N1 := Lib.hid ((((Nx.refl w).alloc (.cells #[.int .u64 (lim t 0 : Int), .int .u64 (lim t 1 : Int), .int .u64 (lim t 2 : Int), .int .u64 (lim t 3 : Int)] 24)).trans hb1).alloc (.cells #[.int .u64 (lim a 0 : Int), .int .u64 (lim a 1 : Int), .int .u64 (lim a 2 : Int), .int .u64 (lim a 3 : Int)] 24))
    clear hb1
    obtain ⟨t0, t1, t2, t3⟩ := R3.four
    go_wp2_with fail
    refine (HBT.out _).mono ?_
    rintro e w3 ⟨rfl, hb3⟩
    replace R3 := R3.nx hb3
    replace N1 := Lib.hid (N1.out.trans hb3)
    clear hb3 t0 t1 t2 t3
    go_wp2_with fail
    refine (HO2.out _).mono ?_
    rintro e w4 ⟨rfl, hb4⟩
    replace R3 := (R3.nx hb4).alloc (.cells #[.int .u64 (lim t' 0 : Int), .int .u64 (lim t' 1 : Int), .int .u64 (lim t' 2 : Int), .int .u64 (lim t' 3 : Int)] 24)
    have R7 : Row (w4.alloc (.cells #[.int .u64 (lim t' 0 : Int), .int .u64 (lim t' 1 : Int), .int .u64 (lim t' 2 : Int), .int .u64 (lim t' 3 : Int)] 24)) w4.heap.size #[.int .u64 (lim t' 0 : Int), .int .u64 (lim t' 1 : Int), .int .u64 (lim t' 2 : Int), .int .u64 (lim t' 3 : Int)] 24 := Row.new w4 _ _ _ rfl
    replace N1 := Lib.hid ((N1.out.trans hb4).alloc (.cells #[.int .u64 (lim t' 0 : Int), .int .u64 (lim t' 1 : Int), .int .u64 (lim t' 2 : Int), .int .u64 (lim t' 3 : Int)] 24))
    clear hb4
    go_wp2_with fail
    generalize w4.heap.size = g7 at *
    generalize (w4.alloc (.cells #[.int .u64 (lim t' 0 : Int), .int .u64 (lim t' 1 : Int), .int .u64 (lim t' 2 : Int), .int .u64 (lim t' 3 : Int)] 24)) = W at *
    have qt0 : ∀ d os, (Sort.grow (redrawn W d) os).cell? ⟨w.heap.size, 0, none⟩ = some (.int .u64 (lim t 0 : Int)) := fun d os => cell_regrown (R3.cell rfl) d os
    have qs0 : ∀ d os, (Sort.grow (redrawn W d) os).cell? ⟨g7, 0, none⟩ = some (.int .u64 (lim t' 0 : Int)) := fun d os => cell_regrown (R7.cell rfl) d os
    have qt1 : ∀ d os, (Sort.grow (redrawn W d) os).cell? ⟨w.heap.size, 1, none⟩ = some (.int .u64 (lim t 1 : Int)) := fun d os => cell_regrown (R3.cell rfl) d os
    have qs1 : ∀ d os, (Sort.grow (redrawn W d) os).cell? ⟨g7, 1, none⟩ = some (.int .u64 (lim t' 1 : Int)) := fun d os => cell_regrown (R7.cell rfl) d os
    have qt2 : ∀ d os, (Sort.grow (redrawn W d) os).cell? ⟨w.heap.size, 2, none⟩ = some (.int .u64 (lim t 2 : Int)) := fun d os => cell_regrown (R3.cell rfl) d os
    have qs2 : ∀ d os, (Sort.grow (redrawn W d) os).cell? ⟨g7, 2, none⟩ = some (.int .u64 (lim t' 2 : Int)) := fun d os => cell_regrown (R7.cell rfl) d os
    have qt3 : ∀ d os, (Sort.grow (redrawn W d) os).cell? ⟨w.heap.size, 3, none⟩ = some (.int .u64 (lim t 3 : Int)) := fun d os => cell_regrown (R3.cell rfl) d os
    have qs3 : ∀ d os, (Sort.grow (redrawn W d) os).cell? ⟨g7, 3, none⟩ = some (.int .u64 (lim t' 3 : Int)) := fun d os => cell_regrown (R7.cell rfl) d os
    clear R3 R5 R7
    refine wp_region_quiet_below (by kernel_rfl) (by kernel_rfl) ?_
    repeat (first
      | quiet_step ((first
        | (go_at_call 22; with_reducible exact Calls.regrown_of (HLE.out _))
        | (go_at_call 44; (first | with_reducible exact Calls.regrown_of (HB2.out _) | with_reducible exact Calls.regrown_of (HBT.out _)))
        | (go_at_call 46; with_reducible exact Calls.regrown_of (lives4_any _)))))
    refine wpQuiet_nil ?_
    intro _ hw'
    obtain ⟨⟨dq, osq⟩, hw''⟩ := hw'
    subst hw''
    go_wp2
    go_ret
    exact ⟨rfl, N1.out.trans (below_regrown W dq osq)⟩

theorem targetBack_law {w : World} (b : Nat) (hb : (b : Int) ≤ 4294967295) (t : Nat) (ht : t < top) :
    Calls Try.prog 12 #[.int .u32 (b : Int), .agg #[.int .u64 (lim t 0 : Int), .int .u64 (lim t 1 : Int), .int .u64 (lim t 2 : Int), .int .u64 (lim t 3 : Int)]] w fun e w' => e = .returned (.bool true) ∧ Nx w w' := by
  rcases ofE_or b with h | h
  · exact targetBack_ok b hb t ht h
  · exact targetBack_bad b hb t ht h
end Go.Proofs.Ytggemncdnclhnaa
