/- CONTRACTS OF LAYER 3: Of, Add, Sub, Less. -/
import Derived.Test.YtggemncdnclhnaaBig1
namespace Go.Proofs.Ytggemncdnclhnaa
open Go.RowKit
set_option linter.unusedVariables false
set_option linter.unusedSimpArgs false

theorem lim_small {n : Nat} (h : (n : Int) ≤ 18446744073709551615) : lim n 0 = n ∧ lim n 1 = 0 ∧ lim n 2 = 0 ∧ lim n 3 = 0 := by
  rw [lim0, lim1, lim2, lim3]; omega

theorem of_any (n : Nat) (w : World) (h : (n : Int) ≤ 18446744073709551615) :
    Calls Try.prog 15 #[.int .u64 (n : Int)] w fun e w' => e = .returned (.agg #[.int .u64 (lim n 0 : Int), .int .u64 (lim n 1 : Int), .int .u64 (lim n 2 : Int), .int .u64 (lim n 3 : Int)]) ∧ Nx w w' := by
  obtain ⟨e0, e1, e2, e3⟩ := lim_small h
  rw [e0, e1, e2, e3]
  clear e0 e1 e2 e3
  go_enter Try.func15, Try.ntmps15
  go_wp2
  exact bodyPost_ret (v := .agg #[.int .u64 (n : Int), .int .u64 0, .int .u64 0, .int .u64 0]) (by simp [results, Try.results15, go_sem]) rfl ⟨rfl, by repeat (first | exact Nx.refl _ | apply Nx.drewN | apply Nx.alloc | refine Nx.setAt ?_ _ (by omega))⟩

set_option maxHeartbeats 400000 in
theorem add_any (a b : Nat) (w : World) (ha : a < top) (hb : b < top) :
    Calls Try.prog 26 #[.agg #[.int .u64 (lim a 0 : Int), .int .u64 (lim a 1 : Int), .int .u64 (lim a 2 : Int), .int .u64 (lim a 3 : Int)], .agg #[.int .u64 (lim b 0 : Int), .int .u64 (lim b 1 : Int), .int .u64 (lim b 2 : Int), .int .u64 (lim b 3 : Int)]] w fun e w' => e = .returned (.tuple #[.agg #[.int .u64 (lim (addN a b) 0 : Int), .int .u64 (lim (addN a b) 1 : Int), .int .u64 (lim (addN a b) 2 : Int), .int .u64 (lim (addN a b) 3 : Int)], .bool (addB a b)]) ∧ Nx w w' := by
  have H := fun w => addLimbs_any a b 0 w (by omega)
  obtain ⟨e0, e1, e2, e3, hcb⟩ := add_facts a b ha hb
  rw [e0, e1, e2, e3] at H
  clear e0 e1 e2 e3
  replace H := Lib.hid H
  go_enter Try.func26, Try.ntmps26
  go_wp2_with fail
  refine (H.out _).mono ?_
  rintro e w' ⟨rfl, hb⟩
  have N0 := Lib.hid ((((Nx.refl w).alloc _).alloc _).alloc _ |>.trans hb)
  obtain ⟨hc, hf, hz⟩ := hb.facts
  simp only [alloc_size] at hz
  have hz' : w.heap.size + 2 < w'.heap.size := by omega
  clear H hb hz
  go_wp2
  exact bodyPost_ret (v := .tuple #[.agg #[.int .u64 (lim (addN a b) 0 : Int), .int .u64 (lim (addN a b) 1 : Int), .int .u64 (lim (addN a b) 2 : Int), .int .u64 (lim (addN a b) 3 : Int)], .bool (addB a b)]) (by simp [results, Try.results26, go_sem, hc, hz']) rfl ⟨rfl, by repeat (first | exact N0.out | apply Nx.drewN | apply Nx.alloc | refine Nx.setAt ?_ _ (by omega))⟩

theorem turn_u64' (x : Nat) (hx : x < 18446744073709551616) : bits .xor .u64 (if IntKind.u64.signed = true then -1 else IntKind.u64.max) (x : Int) = ((18446744073709551615 - x : Nat) : Int) := by
  rw [← turn_u64 x hx]; rfl
set_option maxHeartbeats 1000000 in
theorem sub_any (a b : Nat) (w : World) (ha : a < top) (hb : b < top) :
    Calls Try.prog 28 #[.agg #[.int .u64 (lim a 0 : Int), .int .u64 (lim a 1 : Int), .int .u64 (lim a 2 : Int), .int .u64 (lim a 3 : Int)], .agg #[.int .u64 (lim b 0 : Int), .int .u64 (lim b 1 : Int), .int .u64 (lim b 2 : Int), .int .u64 (lim b 3 : Int)]] w fun e w' => e = .returned (.tuple #[.agg #[.int .u64 (lim (subN a b) 0 : Int), .int .u64 (lim (subN a b) 1 : Int), .int .u64 (lim (subN a b) 2 : Int), .int .u64 (lim (subN a b) 3 : Int)], .bool (subB a b)]) ∧ Nx w w' := by
  have H := fun w => addLimbs_any a (turnN b) 1 w (by omega)
  obtain ⟨e0, e1, e2, e3, hcb⟩ := sub_facts a b ha hb
  rw [e0, e1, e2, e3] at H
  clear e0 e1 e2 e3
  have HT := Lib.hid (turn_lim b hb)
  have HB := Lib.hid (lim_lt b)
  replace H := Lib.hid H
  go_enter Try.func28, Try.ntmps28
  go_wp2
  go_loopw [9] (fun i wr => ∃ k : Nat, k ≤ 4 ∧ i = .int .i64 k ∧ ∃ n, wr = (((w.alloc (.cells #[.int .u64 (lim a 0 : Int), .int .u64 (lim a 1 : Int), .int .u64 (lim a 2 : Int), .int .u64 (lim a 3 : Int)] 24)).alloc (.cells (rowK b (turnN b) k) 24)).alloc (.cells #[.int .u64 0, .int .u64 0, .int .u64 0, .int .u64 0] 24)).drewN n) (fun i _ => 4 - (intOf i).toNat)
  case atStart => exact ⟨0, by omega, rfl, 0, rfl⟩
  case round =>
    obtain ⟨k, hk, rfl, n, rfl⟩ := hrel
    have hk' : k = 0 ∨ k = 1 ∨ k = 2 ∨ k = 3 ∨ k = 4 := by omega
    clear hk
    rcases hk' with rfl | rfl | rfl | rfl | rfl
    · simp only [rowK]
      go_wp2
      go_roundw
      case rel =>
        refine ⟨1, by omega, rfl, ?_⟩
        apply Exists.intro
        rw [put3b, turn_u64' _ (HB.out _)]
        obtain ⟨t0, t1, t2, t3⟩ := HT.out
        first | rw [← t0] | rw [← t1] | rw [← t2] | rw [← t3]
        rfl
      case measure => simp [intOf]
    · simp only [rowK]
      go_wp2
      go_roundw
      case rel =>
        refine ⟨2, by omega, rfl, ?_⟩
        apply Exists.intro
        rw [put3b, turn_u64' _ (HB.out _)]
        obtain ⟨t0, t1, t2, t3⟩ := HT.out
        first | rw [← t0] | rw [← t1] | rw [← t2] | rw [← t3]
        rfl
      case measure => simp [intOf]
    · simp only [rowK]
      go_wp2
      go_roundw
      case rel =>
        refine ⟨3, by omega, rfl, ?_⟩
        apply Exists.intro
        rw [put3b, turn_u64' _ (HB.out _)]
        obtain ⟨t0, t1, t2, t3⟩ := HT.out
        first | rw [← t0] | rw [← t1] | rw [← t2] | rw [← t3]
        rfl
      case measure => simp [intOf]
    · simp only [rowK]
      go_wp2
      go_roundw
      case rel =>
        refine ⟨4, by omega, rfl, ?_⟩
        apply Exists.intro
        rw [put3b, turn_u64' _ (HB.out _)]
        obtain ⟨t0, t1, t2, t3⟩ := HT.out
        first | rw [← t0] | rw [← t1] | rw [← t2] | rw [← t3]
        rfl
      case measure => simp [intOf]
    · simp only [rowK]
      go_wp2_with fail
      refine (H.out _).mono ?_
      rintro e w' ⟨rfl, hb⟩
      have N0 := Lib.hid (((((Nx.refl w).alloc _).alloc _).alloc _).drewN _ |>.trans hb)
      obtain ⟨hc, hf, hz⟩ := hb.facts
      simp only [drewN_size, alloc_size] at hz
      have hz' : w.heap.size + 2 < w'.heap.size := by omega
      clear H hb hz
      go_wp2
      exact bodyPost_ret (v := .tuple #[.agg #[.int .u64 (lim (subN a b) 0 : Int), .int .u64 (lim (subN a b) 1 : Int), .int .u64 (lim (subN a b) 2 : Int), .int .u64 (lim (subN a b) 3 : Int)], .bool (subB a b)]) (by simp [results, Try.results28, go_sem, hc, hz']) rfl ⟨rfl, by repeat (first | exact N0.out | apply Nx.drewN | apply Nx.alloc | refine Nx.setAt ?_ _ (by omega))⟩

set_option maxHeartbeats 400000 in
theorem less_any (a b : Nat) (w : World) (ha : a < top) (hb : b < top) :
    Calls Try.prog 21 #[.agg #[.int .u64 (lim a 0 : Int), .int .u64 (lim a 1 : Int), .int .u64 (lim a 2 : Int), .int .u64 (lim a 3 : Int)], .agg #[.int .u64 (lim b 0 : Int), .int .u64 (lim b 1 : Int), .int .u64 (lim b 2 : Int), .int .u64 (lim b 3 : Int)]] w fun e w' => e = .returned (.bool (subB a b)) ∧ Nx w w' := by
  have H := Lib.hid (fun w => sub_any a b w ha hb)
  clear ha hb
  go_enter Try.func21, Try.ntmps21
  go_wp2_with fail
  refine (H.out _).mono ?_
  rintro e w' ⟨rfl, hb⟩
  have N0 := Lib.hid (((Nx.refl w).alloc _).alloc _ |>.trans hb)
  clear H hb
  go_wp2
  go_ret
  exact ⟨rfl, by repeat (first | exact N0.out | apply Nx.drewN | apply Nx.alloc | refine Nx.setAt ?_ _ (by omega))⟩
end Go.Proofs.Ytggemncdnclhnaa
