/- CONTRACTS OF LAYER 3: Right. -/
import Derived.Test.YtggemncdnclhnaaRowL
import Derived.Test.YtggemncdnclhnaaBigPure2
import Derived.Test.YtggemncdnclhnaaMore2
import Derived.StillTailTactics
namespace Go.Proofs.Ytggemncdnclhnaa
open Go.RowKit
set_option linter.unusedVariables false
set_option linter.unusedSimpArgs false

set_option maxHeartbeats 2000000 in
theorem right_0 (a n p s : Nat) (w : World) (ha : a < top) (hn : (n : Int) ≤ 9223372036854775807) (hq : (n : Int) / 64 = 0) (hp : (n : Int) % 64 = (p : Int)) (hs : s = a / 2 ^ n) :
    Calls Try.prog 38 #[.agg #[.int .u64 (lim a 0 : Int), .int .u64 (lim a 1 : Int), .int .u64 (lim a 2 : Int), .int .u64 (lim a 3 : Int)], .int .i64 (n : Int)] w fun e w' => e = .returned (.agg #[.int .u64 (lim s 0 : Int), .int .u64 (lim s 1 : Int), .int .u64 (lim s 2 : Int), .int .u64 (lim s 3 : Int)]) ∧ Nx w w' := by
  have hnq : n = 64 * 0 + p := by omega
  have HP : Hid (p < 64) := show p < 64 by omega
  have HS : Hid (s = a / 2 ^ (64 * 0 + p)) := show _ = _ by rw [hs, hnq]
  have HA := Lib.hid ha
  clear ha
  have hd0 : (0 : Int) ≤ 64 - (p : Int) := by omega
  have hd1 : 64 - (p : Int) ≤ 64 := by omega
  have hp1 : (p : Int) ≤ 64 := by omega
  have hw0 : IntKind.i64.wrap 0 = 0 := by decide
  have hw1 : IntKind.i64.wrap 1 = 1 := by decide
  have hw2 : IntKind.i64.wrap 2 = 2 := by decide
  have hw3 : IntKind.i64.wrap 3 = 3 := by decide
  have hwp : IntKind.i64.wrap (64 - (p : Int)) = 64 - (p : Int) := IntWalk.i64_in _ (by omega)
  clear hs hnq
  go_enter Try.func38, Try.ntmps38
  go_wp2
  rw [hp]
  go_loopw [8] (fun i wr => ∃ k : Nat, 0 ≤ k ∧ k ≤ 4 ∧ i = .int .i64 k ∧ ∃ n, wr = (((w.alloc (.cells #[.int .u64 (lim a 0 : Int), .int .u64 (lim a 1 : Int), .int .u64 (lim a 2 : Int), .int .u64 (lim a 3 : Int)] 24)).alloc (.cells #[.int .u64 0, .int .u64 0, .int .u64 0, .int .u64 0] 24)).alloc (.cells (rowL s (k - 0)) 24)).drewN n) (fun i _ => 4 - (intOf i).toNat)
  case atStart =>
    refine ⟨0, by omega, by omega, rfl, 0, ?_⟩
    rfl
  case round =>
    obtain ⟨k, hk0, hk, rfl, m, rfl⟩ := hrel
    have hk' : k = 0 ∨ k = 1 ∨ k = 2 ∨ k = 3 ∨ k = 4 := by omega
    clear hk hk0
    rcases hk' with rfl | rfl | rfl | rfl | rfl
    · simp only [rowL, Nat.reduceSub]
      go_wp2
      have c1 : (((((w.alloc (.cells #[.int .u64 (lim a 0 : Int), .int .u64 (lim a 1 : Int), .int .u64 (lim a 2 : Int), .int .u64 (lim a 3 : Int)] 24)).alloc (.cells #[.int .u64 0, .int .u64 0, .int .u64 0, .int .u64 0] 24)).alloc (.cells #[.int .u64 0, .int .u64 0, .int .u64 0, .int .u64 0] 24)).drewN m).setCell ⟨w.heap.size + 1 + 1, 0, none⟩ (.int .u64 ((lim a 0 : Int) / 2 ^ p))).cell? ⟨w.heap.size, 1, none⟩ = some (.int .u64 (lim a 1 : Int)) := by simp [go_sem]
      have c2 : (((((w.alloc (.cells #[.int .u64 (lim a 0 : Int), .int .u64 (lim a 1 : Int), .int .u64 (lim a 2 : Int), .int .u64 (lim a 3 : Int)] 24)).alloc (.cells #[.int .u64 0, .int .u64 0, .int .u64 0, .int .u64 0] 24)).alloc (.cells #[.int .u64 0, .int .u64 0, .int .u64 0, .int .u64 0] 24)).drewN m).setCell ⟨w.heap.size + 1 + 1, 0, none⟩ (.int .u64 ((lim a 0 : Int) / 2 ^ p))).cell? ⟨w.heap.size + 1 + 1, 0, none⟩ = some (.int .u64 ((lim a 0 : Int) / 2 ^ p)) := by simp [go_sem]
      have f2 : (((((w.alloc (.cells #[.int .u64 (lim a 0 : Int), .int .u64 (lim a 1 : Int), .int .u64 (lim a 2 : Int), .int .u64 (lim a 3 : Int)] 24)).alloc (.cells #[.int .u64 0, .int .u64 0, .int .u64 0, .int .u64 0] 24)).alloc (.cells #[.int .u64 0, .int .u64 0, .int .u64 0, .int .u64 0] 24)).drewN m).setCell ⟨w.heap.size + 1 + 1, 0, none⟩ (.int .u64 ((lim a 0 : Int) / 2 ^ p))).frozen? ⟨w.heap.size + 1 + 1, 0, none⟩ = false := by simp [go_sem]
      generalize HW : (((((w.alloc (.cells #[.int .u64 (lim a 0 : Int), .int .u64 (lim a 1 : Int), .int .u64 (lim a 2 : Int), .int .u64 (lim a 3 : Int)] 24)).alloc (.cells #[.int .u64 0, .int .u64 0, .int .u64 0, .int .u64 0] 24)).alloc (.cells #[.int .u64 0, .int .u64 0, .int .u64 0, .int .u64 0] 24)).drewN m).setCell ⟨w.heap.size + 1 + 1, 0, none⟩ (.int .u64 ((lim a 0 : Int) / 2 ^ p))) = W at c1 c2 f2 ⊢
      replace HW := Lib.hid HW
      go_still_tail 14, (by kernel_rfl)
      change wpList _ _ _ _ _ W.drew
      go_wp2
      go_roundw
      case rel =>
        refine ⟨1, by omega, by omega, rfl, m + 1, ?_⟩
        rw [← HW.out, put3c2, shr_hi a 0 p 0 HP.out, ← HS.out]
        rfl
      case measure => simp [intOf]
    · simp only [rowL, Nat.reduceSub]
      go_wp2
      have c1 : (((((w.alloc (.cells #[.int .u64 (lim a 0 : Int), .int .u64 (lim a 1 : Int), .int .u64 (lim a 2 : Int), .int .u64 (lim a 3 : Int)] 24)).alloc (.cells #[.int .u64 0, .int .u64 0, .int .u64 0, .int .u64 0] 24)).alloc (.cells #[.int .u64 (lim s 0 : Int), .int .u64 0, .int .u64 0, .int .u64 0] 24)).drewN m).setCell ⟨w.heap.size + 1 + 1, 1, none⟩ (.int .u64 ((lim a 1 : Int) / 2 ^ p))).cell? ⟨w.heap.size, 2, none⟩ = some (.int .u64 (lim a 2 : Int)) := by simp [go_sem]
      have c2 : (((((w.alloc (.cells #[.int .u64 (lim a 0 : Int), .int .u64 (lim a 1 : Int), .int .u64 (lim a 2 : Int), .int .u64 (lim a 3 : Int)] 24)).alloc (.cells #[.int .u64 0, .int .u64 0, .int .u64 0, .int .u64 0] 24)).alloc (.cells #[.int .u64 (lim s 0 : Int), .int .u64 0, .int .u64 0, .int .u64 0] 24)).drewN m).setCell ⟨w.heap.size + 1 + 1, 1, none⟩ (.int .u64 ((lim a 1 : Int) / 2 ^ p))).cell? ⟨w.heap.size + 1 + 1, 1, none⟩ = some (.int .u64 ((lim a 1 : Int) / 2 ^ p)) := by simp [go_sem]
      have f2 : (((((w.alloc (.cells #[.int .u64 (lim a 0 : Int), .int .u64 (lim a 1 : Int), .int .u64 (lim a 2 : Int), .int .u64 (lim a 3 : Int)] 24)).alloc (.cells #[.int .u64 0, .int .u64 0, .int .u64 0, .int .u64 0] 24)).alloc (.cells #[.int .u64 (lim s 0 : Int), .int .u64 0, .int .u64 0, .int .u64 0] 24)).drewN m).setCell ⟨w.heap.size + 1 + 1, 1, none⟩ (.int .u64 ((lim a 1 : Int) / 2 ^ p))).frozen? ⟨w.heap.size + 1 + 1, 1, none⟩ = false := by simp [go_sem]
      generalize HW : (((((w.alloc (.cells #[.int .u64 (lim a 0 : Int), .int .u64 (lim a 1 : Int), .int .u64 (lim a 2 : Int), .int .u64 (lim a 3 : Int)] 24)).alloc (.cells #[.int .u64 0, .int .u64 0, .int .u64 0, .int .u64 0] 24)).alloc (.cells #[.int .u64 (lim s 0 : Int), .int .u64 0, .int .u64 0, .int .u64 0] 24)).drewN m).setCell ⟨w.heap.size + 1 + 1, 1, none⟩ (.int .u64 ((lim a 1 : Int) / 2 ^ p))) = W at c1 c2 f2 ⊢
      replace HW := Lib.hid HW
      go_still_tail 14, (by kernel_rfl)
      change wpList _ _ _ _ _ W.drew
      go_wp2
      go_roundw
      case rel =>
        refine ⟨2, by omega, by omega, rfl, m + 1, ?_⟩
        rw [← HW.out, put3c2, shr_hi a 0 p 1 HP.out, ← HS.out]
        rfl
      case measure => simp [intOf]
    · simp only [rowL, Nat.reduceSub]
      go_wp2
      have c1 : (((((w.alloc (.cells #[.int .u64 (lim a 0 : Int), .int .u64 (lim a 1 : Int), .int .u64 (lim a 2 : Int), .int .u64 (lim a 3 : Int)] 24)).alloc (.cells #[.int .u64 0, .int .u64 0, .int .u64 0, .int .u64 0] 24)).alloc (.cells #[.int .u64 (lim s 0 : Int), .int .u64 (lim s 1 : Int), .int .u64 0, .int .u64 0] 24)).drewN m).setCell ⟨w.heap.size + 1 + 1, 2, none⟩ (.int .u64 ((lim a 2 : Int) / 2 ^ p))).cell? ⟨w.heap.size, 3, none⟩ = some (.int .u64 (lim a 3 : Int)) := by simp [go_sem]
      have c2 : (((((w.alloc (.cells #[.int .u64 (lim a 0 : Int), .int .u64 (lim a 1 : Int), .int .u64 (lim a 2 : Int), .int .u64 (lim a 3 : Int)] 24)).alloc (.cells #[.int .u64 0, .int .u64 0, .int .u64 0, .int .u64 0] 24)).alloc (.cells #[.int .u64 (lim s 0 : Int), .int .u64 (lim s 1 : Int), .int .u64 0, .int .u64 0] 24)).drewN m).setCell ⟨w.heap.size + 1 + 1, 2, none⟩ (.int .u64 ((lim a 2 : Int) / 2 ^ p))).cell? ⟨w.heap.size + 1 + 1, 2, none⟩ = some (.int .u64 ((lim a 2 : Int) / 2 ^ p)) := by simp [go_sem]
      have f2 : (((((w.alloc (.cells #[.int .u64 (lim a 0 : Int), .int .u64 (lim a 1 : Int), .int .u64 (lim a 2 : Int), .int .u64 (lim a 3 : Int)] 24)).alloc (.cells #[.int .u64 0, .int .u64 0, .int .u64 0, .int .u64 0] 24)).alloc (.cells #[.int .u64 (lim s 0 : Int), .int .u64 (lim s 1 : Int), .int .u64 0, .int .u64 0] 24)).drewN m).setCell ⟨w.heap.size + 1 + 1, 2, none⟩ (.int .u64 ((lim a 2 : Int) / 2 ^ p))).frozen? ⟨w.heap.size + 1 + 1, 2, none⟩ = false := by simp [go_sem]
      generalize HW : (((((w.alloc (.cells #[.int .u64 (lim a 0 : Int), .int .u64 (lim a 1 : Int), .int .u64 (lim a 2 : Int), .int .u64 (lim a 3 : Int)] 24)).alloc (.cells #[.int .u64 0, .int .u64 0, .int .u64 0, .int .u64 0] 24)).alloc (.cells #[.int .u64 (lim s 0 : Int), .int .u64 (lim s 1 : Int), .int .u64 0, .int .u64 0] 24)).drewN m).setCell ⟨w.heap.size + 1 + 1, 2, none⟩ (.int .u64 ((lim a 2 : Int) / 2 ^ p))) = W at c1 c2 f2 ⊢
      replace HW := Lib.hid HW
      go_still_tail 14, (by kernel_rfl)
      change wpList _ _ _ _ _ W.drew
      go_wp2
      go_roundw
      case rel =>
        refine ⟨3, by omega, by omega, rfl, m + 1, ?_⟩
        rw [← HW.out, put3c2, shr_hi a 0 p 2 HP.out, ← HS.out]
        rfl
      case measure => simp [intOf]
    · simp only [rowL, Nat.reduceSub]
      go_wp2
      go_roundw
      case rel =>
        refine ⟨4, by omega, by omega, rfl, m, ?_⟩
        rw [put3c, shr_last a 0 p 3 HP.out HA.out (by omega), ← HS.out]
        rfl
      case measure => simp [intOf]
    · simp only [rowL, Nat.reduceSub]
      go_wp2
      exact bodyPost_ret (v := .agg #[.int .u64 (lim s 0 : Int), .int .u64 (lim s 1 : Int), .int .u64 (lim s 2 : Int), .int .u64 (lim s 3 : Int)]) (by simp [results, Try.results38, go_sem]) rfl ⟨rfl, by repeat (first | exact Nx.refl _ | apply Nx.drewN | apply Nx.alloc | refine Nx.setAt ?_ _ (by omega))⟩

set_option maxHeartbeats 2000000 in
theorem right_1 (a n p s : Nat) (w : World) (ha : a < top) (hn : (n : Int) ≤ 9223372036854775807) (hq : (n : Int) / 64 = 1) (hp : (n : Int) % 64 = (p : Int)) (hs : s = a / 2 ^ n) :
    Calls Try.prog 38 #[.agg #[.int .u64 (lim a 0 : Int), .int .u64 (lim a 1 : Int), .int .u64 (lim a 2 : Int), .int .u64 (lim a 3 : Int)], .int .i64 (n : Int)] w fun e w' => e = .returned (.agg #[.int .u64 (lim s 0 : Int), .int .u64 (lim s 1 : Int), .int .u64 (lim s 2 : Int), .int .u64 (lim s 3 : Int)]) ∧ Nx w w' := by
  have hnq : n = 64 * 1 + p := by omega
  have HP : Hid (p < 64) := show p < 64 by omega
  have HS : Hid (s = a / 2 ^ (64 * 1 + p)) := show _ = _ by rw [hs, hnq]
  have HA := Lib.hid ha
  clear ha
  have HZ3 : Hid (lim s 3 = 0) := show _ = _ by rw [HS.out]; exact shr_zero a 1 p 3 HA.out (by omega)
  have hd0 : (0 : Int) ≤ 64 - (p : Int) := by omega
  have hd1 : 64 - (p : Int) ≤ 64 := by omega
  have hp1 : (p : Int) ≤ 64 := by omega
  have hw0 : IntKind.i64.wrap 0 = 0 := by decide
  have hw1 : IntKind.i64.wrap 1 = 1 := by decide
  have hw2 : IntKind.i64.wrap 2 = 2 := by decide
  have hw3 : IntKind.i64.wrap 3 = 3 := by decide
  have hwp : IntKind.i64.wrap (64 - (p : Int)) = 64 - (p : Int) := IntWalk.i64_in _ (by omega)
  clear hs hnq
  go_enter Try.func38, Try.ntmps38
  go_wp2
  rw [hp]
  go_loopw [8] (fun i wr => ∃ k : Nat, 1 ≤ k ∧ k ≤ 4 ∧ i = .int .i64 k ∧ ∃ n, wr = (((w.alloc (.cells #[.int .u64 (lim a 0 : Int), .int .u64 (lim a 1 : Int), .int .u64 (lim a 2 : Int), .int .u64 (lim a 3 : Int)] 24)).alloc (.cells #[.int .u64 0, .int .u64 0, .int .u64 0, .int .u64 0] 24)).alloc (.cells (rowL s (k - 1)) 24)).drewN n) (fun i _ => 4 - (intOf i).toNat)
  case atStart =>
    refine ⟨1, by omega, by omega, rfl, 0, ?_⟩
    rfl
  case round =>
    obtain ⟨k, hk0, hk, rfl, m, rfl⟩ := hrel
    have hk' : k = 1 ∨ k = 2 ∨ k = 3 ∨ k = 4 := by omega
    clear hk hk0
    rcases hk' with rfl | rfl | rfl | rfl
    · simp only [rowL, Nat.reduceSub]
      go_wp2
      have c1 : (((((w.alloc (.cells #[.int .u64 (lim a 0 : Int), .int .u64 (lim a 1 : Int), .int .u64 (lim a 2 : Int), .int .u64 (lim a 3 : Int)] 24)).alloc (.cells #[.int .u64 0, .int .u64 0, .int .u64 0, .int .u64 0] 24)).alloc (.cells #[.int .u64 0, .int .u64 0, .int .u64 0, .int .u64 0] 24)).drewN m).setCell ⟨w.heap.size + 1 + 1, 0, none⟩ (.int .u64 ((lim a 1 : Int) / 2 ^ p))).cell? ⟨w.heap.size, 2, none⟩ = some (.int .u64 (lim a 2 : Int)) := by simp [go_sem]
      have c2 : (((((w.alloc (.cells #[.int .u64 (lim a 0 : Int), .int .u64 (lim a 1 : Int), .int .u64 (lim a 2 : Int), .int .u64 (lim a 3 : Int)] 24)).alloc (.cells #[.int .u64 0, .int .u64 0, .int .u64 0, .int .u64 0] 24)).alloc (.cells #[.int .u64 0, .int .u64 0, .int .u64 0, .int .u64 0] 24)).drewN m).setCell ⟨w.heap.size + 1 + 1, 0, none⟩ (.int .u64 ((lim a 1 : Int) / 2 ^ p))).cell? ⟨w.heap.size + 1 + 1, 0, none⟩ = some (.int .u64 ((lim a 1 : Int) / 2 ^ p)) := by simp [go_sem]
      have f2 : (((((w.alloc (.cells #[.int .u64 (lim a 0 : Int), .int .u64 (lim a 1 : Int), .int .u64 (lim a 2 : Int), .int .u64 (lim a 3 : Int)] 24)).alloc (.cells #[.int .u64 0, .int .u64 0, .int .u64 0, .int .u64 0] 24)).alloc (.cells #[.int .u64 0, .int .u64 0, .int .u64 0, .int .u64 0] 24)).drewN m).setCell ⟨w.heap.size + 1 + 1, 0, none⟩ (.int .u64 ((lim a 1 : Int) / 2 ^ p))).frozen? ⟨w.heap.size + 1 + 1, 0, none⟩ = false := by simp [go_sem]
      generalize HW : (((((w.alloc (.cells #[.int .u64 (lim a 0 : Int), .int .u64 (lim a 1 : Int), .int .u64 (lim a 2 : Int), .int .u64 (lim a 3 : Int)] 24)).alloc (.cells #[.int .u64 0, .int .u64 0, .int .u64 0, .int .u64 0] 24)).alloc (.cells #[.int .u64 0, .int .u64 0, .int .u64 0, .int .u64 0] 24)).drewN m).setCell ⟨w.heap.size + 1 + 1, 0, none⟩ (.int .u64 ((lim a 1 : Int) / 2 ^ p))) = W at c1 c2 f2 ⊢
      replace HW := Lib.hid HW
      go_still_tail 14, (by kernel_rfl)
      change wpList _ _ _ _ _ W.drew
      go_wp2
      go_roundw
      case rel =>
        refine ⟨2, by omega, by omega, rfl, m + 1, ?_⟩
        rw [← HW.out, put3c2, shr_hi a 1 p 0 HP.out, ← HS.out]
        rfl
      case measure => simp [intOf]
    · simp only [rowL, Nat.reduceSub]
      go_wp2
      have c1 : (((((w.alloc (.cells #[.int .u64 (lim a 0 : Int), .int .u64 (lim a 1 : Int), .int .u64 (lim a 2 : Int), .int .u64 (lim a 3 : Int)] 24)).alloc (.cells #[.int .u64 0, .int .u64 0, .int .u64 0, .int .u64 0] 24)).alloc (.cells #[.int .u64 (lim s 0 : Int), .int .u64 0, .int .u64 0, .int .u64 0] 24)).drewN m).setCell ⟨w.heap.size + 1 + 1, 1, none⟩ (.int .u64 ((lim a 2 : Int) / 2 ^ p))).cell? ⟨w.heap.size, 3, none⟩ = some (.int .u64 (lim a 3 : Int)) := by simp [go_sem]
      have c2 : (((((w.alloc (.cells #[.int .u64 (lim a 0 : Int), .int .u64 (lim a 1 : Int), .int .u64 (lim a 2 : Int), .int .u64 (lim a 3 : Int)] 24)).alloc (.cells #[.int .u64 0, .int .u64 0, .int .u64 0, .int .u64 0] 24)).alloc (.cells #[.int .u64 (lim s 0 : Int), .int .u64 0, .int .u64 0, .int .u64 0] 24)).drewN m).setCell ⟨w.heap.size + 1 + 1, 1, none⟩ (.int .u64 ((lim a 2 : Int) / 2 ^ p))).cell? ⟨w.heap.size + 1 + 1, 1, none⟩ = some (.int .u64 ((lim a 2 : Int) / 2 ^ p)) := by simp [go_sem]
      have f2 : (((((w.alloc (.cells #[.int .u64 (lim a 0 : Int), .int .u64 (lim a 1 : Int), .int .u64 (lim a 2 : Int), .int .u64 (lim a 3 : Int)] 24)).alloc (.cells #[.int .u64 0, .int .u64 0, .int .u64 0, .int .u64 0] 24)).alloc (.cells #[.int .u64 (lim s 0 : Int), .int .u64 0, .int .u64 0, .int .u64 0] 24)).drewN m).setCell ⟨w.heap.size + 1 + 1, 1, none⟩ (.int .u64 ((lim a 2 : Int) / 2 ^ p))).frozen? ⟨w.heap.size + 1 + 1, 1, none⟩ = false := by simp [go_sem]
      generalize HW : (((((w.alloc (.cells #[.int .u64 (lim a 0 : Int), .int .u64 (lim a 1 : Int), .int .u64 (lim a 2 : Int), .int .u64 (lim a 3 : Int)] 24)).alloc (.cells #[.int .u64 0, .int .u64 0, .int .u64 0, .int .u64 0] 24)).alloc (.cells #[.int .u64 (lim s 0 : Int), .int .u64 0, .int .u64 0, .int .u64 0] 24)).drewN m).setCell ⟨w.heap.size + 1 + 1, 1, none⟩ (.int .u64 ((lim a 2 : Int) / 2 ^ p))) = W at c1 c2 f2 ⊢
      replace HW := Lib.hid HW
      go_still_tail 14, (by kernel_rfl)
      change wpList _ _ _ _ _ W.drew
      go_wp2
      go_roundw
      case rel =>
        refine ⟨3, by omega, by omega, rfl, m + 1, ?_⟩
        rw [← HW.out, put3c2, shr_hi a 1 p 1 HP.out, ← HS.out]
        rfl
      case measure => simp [intOf]
    · simp only [rowL, Nat.reduceSub]
      go_wp2
      go_roundw
      case rel =>
        refine ⟨4, by omega, by omega, rfl, m, ?_⟩
        rw [put3c, shr_last a 1 p 2 HP.out HA.out (by omega), ← HS.out]
        rfl
      case measure => simp [intOf]
    · simp only [rowL, Nat.reduceSub]
      go_wp2
      rw [HZ3.out]
      exact bodyPost_ret (v := .agg #[.int .u64 (lim s 0 : Int), .int .u64 (lim s 1 : Int), .int .u64 (lim s 2 : Int), .int .u64 0]) (by simp [results, Try.results38, go_sem]) rfl ⟨rfl, by repeat (first | exact Nx.refl _ | apply Nx.drewN | apply Nx.alloc | refine Nx.setAt ?_ _ (by omega))⟩

set_option maxHeartbeats 2000000 in
theorem right_2 (a n p s : Nat) (w : World) (ha : a < top) (hn : (n : Int) ≤ 9223372036854775807) (hq : (n : Int) / 64 = 2) (hp : (n : Int) % 64 = (p : Int)) (hs : s = a / 2 ^ n) :
    Calls Try.prog 38 #[.agg #[.int .u64 (lim a 0 : Int), .int .u64 (lim a 1 : Int), .int .u64 (lim a 2 : Int), .int .u64 (lim a 3 : Int)], .int .i64 (n : Int)] w fun e w' => e = .returned (.agg #[.int .u64 (lim s 0 : Int), .int .u64 (lim s 1 : Int), .int .u64 (lim s 2 : Int), .int .u64 (lim s 3 : Int)]) ∧ Nx w w' := by
  have hnq : n = 64 * 2 + p := by omega
  have HP : Hid (p < 64) := show p < 64 by omega
  have HS : Hid (s = a / 2 ^ (64 * 2 + p)) := show _ = _ by rw [hs, hnq]
  have HA := Lib.hid ha
  clear ha
  have HZ2 : Hid (lim s 2 = 0) := show _ = _ by rw [HS.out]; exact shr_zero a 2 p 2 HA.out (by omega)
  have HZ3 : Hid (lim s 3 = 0) := show _ = _ by rw [HS.out]; exact shr_zero a 2 p 3 HA.out (by omega)
  have hd0 : (0 : Int) ≤ 64 - (p : Int) := by omega
  have hd1 : 64 - (p : Int) ≤ 64 := by omega
  have hp1 : (p : Int) ≤ 64 := by omega
  have hw0 : IntKind.i64.wrap 0 = 0 := by decide
  have hw1 : IntKind.i64.wrap 1 = 1 := by decide
  have hw2 : IntKind.i64.wrap 2 = 2 := by decide
  have hw3 : IntKind.i64.wrap 3 = 3 := by decide
  have hwp : IntKind.i64.wrap (64 - (p : Int)) = 64 - (p : Int) := IntWalk.i64_in _ (by omega)
  clear hs hnq
  go_enter Try.func38, Try.ntmps38
  go_wp2
  rw [hp]
  go_loopw [8] (fun i wr => ∃ k : Nat, 2 ≤ k ∧ k ≤ 4 ∧ i = .int .i64 k ∧ ∃ n, wr = (((w.alloc (.cells #[.int .u64 (lim a 0 : Int), .int .u64 (lim a 1 : Int), .int .u64 (lim a 2 : Int), .int .u64 (lim a 3 : Int)] 24)).alloc (.cells #[.int .u64 0, .int .u64 0, .int .u64 0, .int .u64 0] 24)).alloc (.cells (rowL s (k - 2)) 24)).drewN n) (fun i _ => 4 - (intOf i).toNat)
  case atStart =>
    refine ⟨2, by omega, by omega, rfl, 0, ?_⟩
    rfl
  case round =>
    obtain ⟨k, hk0, hk, rfl, m, rfl⟩ := hrel
    have hk' : k = 2 ∨ k = 3 ∨ k = 4 := by omega
    clear hk hk0
    rcases hk' with rfl | rfl | rfl
    · simp only [rowL, Nat.reduceSub]
      go_wp2
      have c1 : (((((w.alloc (.cells #[.int .u64 (lim a 0 : Int), .int .u64 (lim a 1 : Int), .int .u64 (lim a 2 : Int), .int .u64 (lim a 3 : Int)] 24)).alloc (.cells #[.int .u64 0, .int .u64 0, .int .u64 0, .int .u64 0] 24)).alloc (.cells #[.int .u64 0, .int .u64 0, .int .u64 0, .int .u64 0] 24)).drewN m).setCell ⟨w.heap.size + 1 + 1, 0, none⟩ (.int .u64 ((lim a 2 : Int) / 2 ^ p))).cell? ⟨w.heap.size, 3, none⟩ = some (.int .u64 (lim a 3 : Int)) := by simp [go_sem]
      have c2 : (((((w.alloc (.cells #[.int .u64 (lim a 0 : Int), .int .u64 (lim a 1 : Int), .int .u64 (lim a 2 : Int), .int .u64 (lim a 3 : Int)] 24)).alloc (.cells #[.int .u64 0, .int .u64 0, .int .u64 0, .int .u64 0] 24)).alloc (.cells #[.int .u64 0, .int .u64 0, .int .u64 0, .int .u64 0] 24)).drewN m).setCell ⟨w.heap.size + 1 + 1, 0, none⟩ (.int .u64 ((lim a 2 : Int) / 2 ^ p))).cell? ⟨w.heap.size + 1 + 1, 0, none⟩ = some (.int .u64 ((lim a 2 : Int) / 2 ^ p)) := by simp [go_sem]
      have f2 : (((((w.alloc (.cells #[.int .u64 (lim a 0 : Int), .int .u64 (lim a 1 : Int), .int .u64 (lim a 2 : Int), .int .u64 (lim a 3 : Int)] 24)).alloc (.cells #[.int .u64 0, .int .u64 0, .int .u64 0, .int .u64 0] 24)).alloc (.cells #[.int .u64 0, .int .u64 0, .int .u64 0, .int .u64 0] 24)).drewN m).setCell ⟨w.heap.size + 1 + 1, 0, none⟩ (.int .u64 ((lim a 2 : Int) / 2 ^ p))).frozen? ⟨w.heap.size + 1 + 1, 0, none⟩ = false := by simp [go_sem]
      generalize HW : (((((w.alloc (.cells #[.int .u64 (lim a 0 : Int), .int .u64 (lim a 1 : Int), .int .u64 (lim a 2 : Int), .int .u64 (lim a 3 : Int)] 24)).alloc (.cells #[.int .u64 0, .int .u64 0, .int .u64 0, .int .u64 0] 24)).alloc (.cells #[.int .u64 0, .int .u64 0, .int .u64 0, .int .u64 0] 24)).drewN m).setCell ⟨w.heap.size + 1 + 1, 0, none⟩ (.int .u64 ((lim a 2 : Int) / 2 ^ p))) = W at c1 c2 f2 ⊢
      replace HW := Lib.hid HW
      go_still_tail 14, (by kernel_rfl)
      change wpList _ _ _ _ _ W.drew
      go_wp2
      go_roundw
      case rel =>
        refine ⟨3, by omega, by omega, rfl, m + 1, ?_⟩
        rw [← HW.out, put3c2, shr_hi a 2 p 0 HP.out, ← HS.out]
        rfl
      case measure => simp [intOf]
    · simp only [rowL, Nat.reduceSub]
      go_wp2
      go_roundw
      case rel =>
        refine ⟨4, by omega, by omega, rfl, m, ?_⟩
        rw [put3c, shr_last a 2 p 1 HP.out HA.out (by omega), ← HS.out]
        rfl
      case measure => simp [intOf]
    · simp only [rowL, Nat.reduceSub]
      go_wp2
      rw [HZ2.out, HZ3.out]
      exact bodyPost_ret (v := .agg #[.int .u64 (lim s 0 : Int), .int .u64 (lim s 1 : Int), .int .u64 0, .int .u64 0]) (by simp [results, Try.results38, go_sem]) rfl ⟨rfl, by repeat (first | exact Nx.refl _ | apply Nx.drewN | apply Nx.alloc | refine Nx.setAt ?_ _ (by omega))⟩

set_option maxHeartbeats 2000000 in
theorem right_3 (a n p s : Nat) (w : World) (ha : a < top) (hn : (n : Int) ≤ 9223372036854775807) (hq : (n : Int) / 64 = 3) (hp : (n : Int) % 64 = (p : Int)) (hs : s = a / 2 ^ n) :
    Calls Try.prog 38 #[.agg #[.int .u64 (lim a 0 : Int), .int .u64 (lim a 1 : Int), .int .u64 (lim a 2 : Int), .int .u64 (lim a 3 : Int)], .int .i64 (n : Int)] w fun e w' => e = .returned (.agg #[.int .u64 (lim s 0 : Int), .int .u64 (lim s 1 : Int), .int .u64 (lim s 2 : Int), .int .u64 (lim s 3 : Int)]) ∧ Nx w w' := by
  have hnq : n = 64 * 3 + p := by omega
  have HP : Hid (p < 64) := show p < 64 by omega
  have HS : Hid (s = a / 2 ^ (64 * 3 + p)) := show _ = _ by rw [hs, hnq]
  have HA := Lib.hid ha
  clear ha
  have HZ1 : Hid (lim s 1 = 0) := show _ = _ by rw [HS.out]; exact shr_zero a 3 p 1 HA.out (by omega)
  have HZ2 : Hid (lim s 2 = 0) := show _ = _ by rw [HS.out]; exact shr_zero a 3 p 2 HA.out (by omega)
  have HZ3 : Hid (lim s 3 = 0) := show _ = _ by rw [HS.out]; exact shr_zero a 3 p 3 HA.out (by omega)
  have hd0 : (0 : Int) ≤ 64 - (p : Int) := by omega
  have hd1 : 64 - (p : Int) ≤ 64 := by omega
  have hp1 : (p : Int) ≤ 64 := by omega
  have hw0 : IntKind.i64.wrap 0 = 0 := by decide
  have hw1 : IntKind.i64.wrap 1 = 1 := by decide
  have hw2 : IntKind.i64.wrap 2 = 2 := by decide
  have hw3 : IntKind.i64.wrap 3 = 3 := by decide
  have hwp : IntKind.i64.wrap (64 - (p : Int)) = 64 - (p : Int) := IntWalk.i64_in _ (by omega)
  clear hs hnq
  go_enter Try.func38, Try.ntmps38
  go_wp2
  rw [hp]
  go_loopw [8] (fun i wr => ∃ k : Nat, 3 ≤ k ∧ k ≤ 4 ∧ i = .int .i64 k ∧ ∃ n, wr = (((w.alloc (.cells #[.int .u64 (lim a 0 : Int), .int .u64 (lim a 1 : Int), .int .u64 (lim a 2 : Int), .int .u64 (lim a 3 : Int)] 24)).alloc (.cells #[.int .u64 0, .int .u64 0, .int .u64 0, .int .u64 0] 24)).alloc (.cells (rowL s (k - 3)) 24)).drewN n) (fun i _ => 4 - (intOf i).toNat)
  case atStart =>
    refine ⟨3, by omega, by omega, rfl, 0, ?_⟩
    rfl
  case round =>
    obtain ⟨k, hk0, hk, rfl, m, rfl⟩ := hrel
    have hk' : k = 3 ∨ k = 4 := by omega
    clear hk hk0
    rcases hk' with rfl | rfl
    · simp only [rowL, Nat.reduceSub]
      go_wp2
      go_roundw
      case rel =>
        refine ⟨4, by omega, by omega, rfl, m, ?_⟩
        rw [put3c, shr_last a 3 p 0 HP.out HA.out (by omega), ← HS.out]
        rfl
      case measure => simp [intOf]
    · simp only [rowL, Nat.reduceSub]
      go_wp2
      rw [HZ1.out, HZ2.out, HZ3.out]
      exact bodyPost_ret (v := .agg #[.int .u64 (lim s 0 : Int), .int .u64 0, .int .u64 0, .int .u64 0]) (by simp [results, Try.results38, go_sem]) rfl ⟨rfl, by repeat (first | exact Nx.refl _ | apply Nx.drewN | apply Nx.alloc | refine Nx.setAt ?_ _ (by omega))⟩
end Go.Proofs.Ytggemncdnclhnaa
