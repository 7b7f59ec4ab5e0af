/- TEXTS OF OUR OWN, IN ONE FILE. -/
import Derived.Test.YtjbeemoobmagnaaDoorGh
import Derived.Test.YtjbeemoobmagnaaDoorGa
import Derived.StillTailTactics
section
namespace Go.Proofs.YtjbeemoobmagnaaDoor
open Go.RowKit
set_option linter.unusedVariables false
set_option linter.unusedSimpArgs false

/-- What was moved up, the limbs below k laid, the others 0. -/
def bigRowL (s : Nat) : Nat → Array Value
  | 0 => #[.int .u64 0, .int .u64 0, .int .u64 0, .int .u64 0]
  | 1 => #[.int .u64 (lim s 0 : Int), .int .u64 0, .int .u64 0, .int .u64 0]
  | 2 => #[.int .u64 (lim s 0 : Int), .int .u64 (lim s 1 : Int), .int .u64 0, .int .u64 0]
  | 3 => #[.int .u64 (lim s 0 : Int), .int .u64 (lim s 1 : Int), .int .u64 (lim s 2 : Int), .int .u64 0]
  | _ => #[.int .u64 (lim s 0 : Int), .int .u64 (lim s 1 : Int), .int .u64 (lim s 2 : Int), .int .u64 (lim s 3 : Int)]
end Go.Proofs.YtjbeemoobmagnaaDoor
end

section
namespace Go.Proofs.YtjbeemoobmagnaaDoor
open Go.RowKit
set_option linter.unusedVariables false
set_option linter.unusedSimpArgs false
set_option maxRecDepth 20000

set_option maxHeartbeats 2000000 in
theorem left_0 (a n p s : Nat) (w : World) (hn : (n : Int) ≤ 9223372036854775807) (hq : (n : Int) / 64 = 0) (hp : (n : Int) % 64 = (p : Int)) (hs : s = a * 2 ^ n) :
    Calls Tryd.prog 110 #[.agg #[.int .u64 (lim a 0 : Int), .int .u64 (lim a 1 : Int), .int .u64 (lim a 2 : Int), .int .u64 (lim a 3 : Int)], .int .i64 (n : Int)] w fun e w' => e = .returned (.agg #[.int .u64 (lim s 0 : Int), .int .u64 (lim s 1 : Int), .int .u64 (lim s 2 : Int), .int .u64 (lim s 3 : Int)]) ∧ Nx w w' := by
  have hnq : n = 64 * 0 + p := by omega
  have HP : Hid (p < 64) := show p < 64 by omega
  have HS : Hid (s = a * 2 ^ (64 * 0 + p)) := show _ = _ by rw [hs, hnq]
  have hd0 : (0 : Int) ≤ 64 - (p : Int) := by omega
  have hd1 : 64 - (p : Int) ≤ 64 := by omega
  have hp1 : (p : Int) ≤ 64 := by omega
  have hw0 : IntKind.i64.wrap 0 = 0 := by decide
  have hw1 : IntKind.i64.wrap 1 = 1 := by decide
  have hw2 : IntKind.i64.wrap 2 = 2 := by decide
  have hw3 : IntKind.i64.wrap 3 = 3 := by decide
  have hwp : IntKind.i64.wrap (64 - (p : Int)) = 64 - (p : Int) := IntWalk.i64_in _ (by omega)
  clear hs hnq
  go_enter Tryd.func110, Tryd.ntmps110
  go_wp2
  rw [hp]
  go_loopw [8] (fun i wr => ∃ k : Nat, 0 ≤ k ∧ k ≤ 4 ∧ i = .int .i64 k ∧ ∃ n, wr = (((w.alloc (.cells #[.int .u64 (lim a 0 : Int), .int .u64 (lim a 1 : Int), .int .u64 (lim a 2 : Int), .int .u64 (lim a 3 : Int)] 81)).alloc (.cells #[.int .u64 0, .int .u64 0, .int .u64 0, .int .u64 0] 81)).alloc (.cells (bigRowL s k) 81)).drewN n) (fun i _ => 4 - (intOf i).toNat)
  case atStart =>
    refine ⟨0, by omega, by omega, rfl, 0, ?_⟩
    simp only [bigRowL]
    rfl
  case round =>
    obtain ⟨k, hk0, hk, rfl, m, rfl⟩ := hrel
    have hk' : k = 0 ∨ k = 1 ∨ k = 2 ∨ k = 3 ∨ k = 4 := by omega
    clear hk hk0
    rcases hk' with rfl | rfl | rfl | rfl | rfl
    · simp only [bigRowL, Nat.reduceSub]
      go_wp2
      go_roundw
      case rel =>
        refine ⟨1, by omega, by omega, rfl, m, ?_⟩
        rw [put3c, shl_lo a 0 p, ← HS.out]
        rfl
      case measure => simp [intOf]
    · simp only [bigRowL, Nat.reduceSub]
      go_wp2
      have c1 : (((((w.alloc (.cells #[.int .u64 (lim a 0 : Int), .int .u64 (lim a 1 : Int), .int .u64 (lim a 2 : Int), .int .u64 (lim a 3 : Int)] 81)).alloc (.cells #[.int .u64 0, .int .u64 0, .int .u64 0, .int .u64 0] 81)).alloc (.cells #[.int .u64 (lim s 0 : Int), .int .u64 0, .int .u64 0, .int .u64 0] 81)).drewN m).setCell ⟨w.heap.size + 1 + 1, 1, none⟩ (.int .u64 (IntKind.u64.wrap ((lim a 1 : Int) * 2 ^ p)))).cell? ⟨w.heap.size, 0, none⟩ = some (.int .u64 (lim a 0 : Int)) := by simp [go_sem]
      have c2 : (((((w.alloc (.cells #[.int .u64 (lim a 0 : Int), .int .u64 (lim a 1 : Int), .int .u64 (lim a 2 : Int), .int .u64 (lim a 3 : Int)] 81)).alloc (.cells #[.int .u64 0, .int .u64 0, .int .u64 0, .int .u64 0] 81)).alloc (.cells #[.int .u64 (lim s 0 : Int), .int .u64 0, .int .u64 0, .int .u64 0] 81)).drewN m).setCell ⟨w.heap.size + 1 + 1, 1, none⟩ (.int .u64 (IntKind.u64.wrap ((lim a 1 : Int) * 2 ^ p)))).cell? ⟨w.heap.size + 1 + 1, 1, none⟩ = some (.int .u64 (IntKind.u64.wrap ((lim a 1 : Int) * 2 ^ p))) := by simp [go_sem]
      have f2 : (((((w.alloc (.cells #[.int .u64 (lim a 0 : Int), .int .u64 (lim a 1 : Int), .int .u64 (lim a 2 : Int), .int .u64 (lim a 3 : Int)] 81)).alloc (.cells #[.int .u64 0, .int .u64 0, .int .u64 0, .int .u64 0] 81)).alloc (.cells #[.int .u64 (lim s 0 : Int), .int .u64 0, .int .u64 0, .int .u64 0] 81)).drewN m).setCell ⟨w.heap.size + 1 + 1, 1, none⟩ (.int .u64 (IntKind.u64.wrap ((lim a 1 : Int) * 2 ^ p)))).frozen? ⟨w.heap.size + 1 + 1, 1, none⟩ = false := by simp [go_sem]
      generalize HW : (((((w.alloc (.cells #[.int .u64 (lim a 0 : Int), .int .u64 (lim a 1 : Int), .int .u64 (lim a 2 : Int), .int .u64 (lim a 3 : Int)] 81)).alloc (.cells #[.int .u64 0, .int .u64 0, .int .u64 0, .int .u64 0] 81)).alloc (.cells #[.int .u64 (lim s 0 : Int), .int .u64 0, .int .u64 0, .int .u64 0] 81)).drewN m).setCell ⟨w.heap.size + 1 + 1, 1, none⟩ (.int .u64 (IntKind.u64.wrap ((lim a 1 : Int) * 2 ^ p)))) = W at c1 c2 f2 ⊢
      replace HW := Lib.hid HW
      go_still_tail 14, (by kernel_rfl)
      change wpList _ _ _ _ _ W.drew
      go_wp2
      go_roundw
      case rel =>
        refine ⟨2, by omega, by omega, rfl, m + 1, ?_⟩
        rw [← HW.out, put3c2, shl_hi a 0 p 0 HP.out, ← HS.out]
        rfl
      case measure => simp [intOf]
    · simp only [bigRowL, Nat.reduceSub]
      go_wp2
      have c1 : (((((w.alloc (.cells #[.int .u64 (lim a 0 : Int), .int .u64 (lim a 1 : Int), .int .u64 (lim a 2 : Int), .int .u64 (lim a 3 : Int)] 81)).alloc (.cells #[.int .u64 0, .int .u64 0, .int .u64 0, .int .u64 0] 81)).alloc (.cells #[.int .u64 (lim s 0 : Int), .int .u64 (lim s 1 : Int), .int .u64 0, .int .u64 0] 81)).drewN m).setCell ⟨w.heap.size + 1 + 1, 2, none⟩ (.int .u64 (IntKind.u64.wrap ((lim a 2 : Int) * 2 ^ p)))).cell? ⟨w.heap.size, 1, none⟩ = some (.int .u64 (lim a 1 : Int)) := by simp [go_sem]
      have c2 : (((((w.alloc (.cells #[.int .u64 (lim a 0 : Int), .int .u64 (lim a 1 : Int), .int .u64 (lim a 2 : Int), .int .u64 (lim a 3 : Int)] 81)).alloc (.cells #[.int .u64 0, .int .u64 0, .int .u64 0, .int .u64 0] 81)).alloc (.cells #[.int .u64 (lim s 0 : Int), .int .u64 (lim s 1 : Int), .int .u64 0, .int .u64 0] 81)).drewN m).setCell ⟨w.heap.size + 1 + 1, 2, none⟩ (.int .u64 (IntKind.u64.wrap ((lim a 2 : Int) * 2 ^ p)))).cell? ⟨w.heap.size + 1 + 1, 2, none⟩ = some (.int .u64 (IntKind.u64.wrap ((lim a 2 : Int) * 2 ^ p))) := by simp [go_sem]
      have f2 : (((((w.alloc (.cells #[.int .u64 (lim a 0 : Int), .int .u64 (lim a 1 : Int), .int .u64 (lim a 2 : Int), .int .u64 (lim a 3 : Int)] 81)).alloc (.cells #[.int .u64 0, .int .u64 0, .int .u64 0, .int .u64 0] 81)).alloc (.cells #[.int .u64 (lim s 0 : Int), .int .u64 (lim s 1 : Int), .int .u64 0, .int .u64 0] 81)).drewN m).setCell ⟨w.heap.size + 1 + 1, 2, none⟩ (.int .u64 (IntKind.u64.wrap ((lim a 2 : Int) * 2 ^ p)))).frozen? ⟨w.heap.size + 1 + 1, 2, none⟩ = false := by simp [go_sem]
      generalize HW : (((((w.alloc (.cells #[.int .u64 (lim a 0 : Int), .int .u64 (lim a 1 : Int), .int .u64 (lim a 2 : Int), .int .u64 (lim a 3 : Int)] 81)).alloc (.cells #[.int .u64 0, .int .u64 0, .int .u64 0, .int .u64 0] 81)).alloc (.cells #[.int .u64 (lim s 0 : Int), .int .u64 (lim s 1 : Int), .int .u64 0, .int .u64 0] 81)).drewN m).setCell ⟨w.heap.size + 1 + 1, 2, none⟩ (.int .u64 (IntKind.u64.wrap ((lim a 2 : Int) * 2 ^ p)))) = W at c1 c2 f2 ⊢
      replace HW := Lib.hid HW
      go_still_tail 14, (by kernel_rfl)
      change wpList _ _ _ _ _ W.drew
      go_wp2
      go_roundw
      case rel =>
        refine ⟨3, by omega, by omega, rfl, m + 1, ?_⟩
        rw [← HW.out, put3c2, shl_hi a 0 p 1 HP.out, ← HS.out]
        rfl
      case measure => simp [intOf]
    · simp only [bigRowL, Nat.reduceSub]
      go_wp2
      have c1 : (((((w.alloc (.cells #[.int .u64 (lim a 0 : Int), .int .u64 (lim a 1 : Int), .int .u64 (lim a 2 : Int), .int .u64 (lim a 3 : Int)] 81)).alloc (.cells #[.int .u64 0, .int .u64 0, .int .u64 0, .int .u64 0] 81)).alloc (.cells #[.int .u64 (lim s 0 : Int), .int .u64 (lim s 1 : Int), .int .u64 (lim s 2 : Int), .int .u64 0] 81)).drewN m).setCell ⟨w.heap.size + 1 + 1, 3, none⟩ (.int .u64 (IntKind.u64.wrap ((lim a 3 : Int) * 2 ^ p)))).cell? ⟨w.heap.size, 2, none⟩ = some (.int .u64 (lim a 2 : Int)) := by simp [go_sem]
      have c2 : (((((w.alloc (.cells #[.int .u64 (lim a 0 : Int), .int .u64 (lim a 1 : Int), .int .u64 (lim a 2 : Int), .int .u64 (lim a 3 : Int)] 81)).alloc (.cells #[.int .u64 0, .int .u64 0, .int .u64 0, .int .u64 0] 81)).alloc (.cells #[.int .u64 (lim s 0 : Int), .int .u64 (lim s 1 : Int), .int .u64 (lim s 2 : Int), .int .u64 0] 81)).drewN m).setCell ⟨w.heap.size + 1 + 1, 3, none⟩ (.int .u64 (IntKind.u64.wrap ((lim a 3 : Int) * 2 ^ p)))).cell? ⟨w.heap.size + 1 + 1, 3, none⟩ = some (.int .u64 (IntKind.u64.wrap ((lim a 3 : Int) * 2 ^ p))) := by simp [go_sem]
      have f2 : (((((w.alloc (.cells #[.int .u64 (lim a 0 : Int), .int .u64 (lim a 1 : Int), .int .u64 (lim a 2 : Int), .int .u64 (lim a 3 : Int)] 81)).alloc (.cells #[.int .u64 0, .int .u64 0, .int .u64 0, .int .u64 0] 81)).alloc (.cells #[.int .u64 (lim s 0 : Int), .int .u64 (lim s 1 : Int), .int .u64 (lim s 2 : Int), .int .u64 0] 81)).drewN m).setCell ⟨w.heap.size + 1 + 1, 3, none⟩ (.int .u64 (IntKind.u64.wrap ((lim a 3 : Int) * 2 ^ p)))).frozen? ⟨w.heap.size + 1 + 1, 3, none⟩ = false := by simp [go_sem]
      generalize HW : (((((w.alloc (.cells #[.int .u64 (lim a 0 : Int), .int .u64 (lim a 1 : Int), .int .u64 (lim a 2 : Int), .int .u64 (lim a 3 : Int)] 81)).alloc (.cells #[.int .u64 0, .int .u64 0, .int .u64 0, .int .u64 0] 81)).alloc (.cells #[.int .u64 (lim s 0 : Int), .int .u64 (lim s 1 : Int), .int .u64 (lim s 2 : Int), .int .u64 0] 81)).drewN m).setCell ⟨w.heap.size + 1 + 1, 3, none⟩ (.int .u64 (IntKind.u64.wrap ((lim a 3 : Int) * 2 ^ p)))) = W at c1 c2 f2 ⊢
      replace HW := Lib.hid HW
      go_still_tail 14, (by kernel_rfl)
      change wpList _ _ _ _ _ W.drew
      go_wp2
      go_roundw
      case rel =>
        refine ⟨4, by omega, by omega, rfl, m + 1, ?_⟩
        rw [← HW.out, put3c2, shl_hi a 0 p 2 HP.out, ← HS.out]
        rfl
      case measure => simp [intOf]
    · simp only [bigRowL, Nat.reduceSub]
      go_wp2
      exact bodyPost_ret (v := .agg #[.int .u64 (lim s 0 : Int), .int .u64 (lim s 1 : Int), .int .u64 (lim s 2 : Int), .int .u64 (lim s 3 : Int)]) (by simp [results, Tryd.results110, go_sem]) rfl ⟨rfl, by repeat (first | exact Nx.refl _ | apply Nx.drewN | apply Nx.alloc | refine Nx.setAt ?_ _ (by omega))⟩

set_option maxHeartbeats 2000000 in
theorem left_1 (a n p s : Nat) (w : World) (hn : (n : Int) ≤ 9223372036854775807) (hq : (n : Int) / 64 = 1) (hp : (n : Int) % 64 = (p : Int)) (hs : s = a * 2 ^ n) :
    Calls Tryd.prog 110 #[.agg #[.int .u64 (lim a 0 : Int), .int .u64 (lim a 1 : Int), .int .u64 (lim a 2 : Int), .int .u64 (lim a 3 : Int)], .int .i64 (n : Int)] w fun e w' => e = .returned (.agg #[.int .u64 (lim s 0 : Int), .int .u64 (lim s 1 : Int), .int .u64 (lim s 2 : Int), .int .u64 (lim s 3 : Int)]) ∧ Nx w w' := by
  have hnq : n = 64 * 1 + p := by omega
  have HP : Hid (p < 64) := show p < 64 by omega
  have HS : Hid (s = a * 2 ^ (64 * 1 + p)) := show _ = _ by rw [hs, hnq]
  have HZ0 : Hid (lim s 0 = 0) := show _ = _ by rw [HS.out]; exact shl_zero a 1 p 0 (by omega)
  have hd0 : (0 : Int) ≤ 64 - (p : Int) := by omega
  have hd1 : 64 - (p : Int) ≤ 64 := by omega
  have hp1 : (p : Int) ≤ 64 := by omega
  have hw0 : IntKind.i64.wrap 0 = 0 := by decide
  have hw1 : IntKind.i64.wrap 1 = 1 := by decide
  have hw2 : IntKind.i64.wrap 2 = 2 := by decide
  have hw3 : IntKind.i64.wrap 3 = 3 := by decide
  have hwp : IntKind.i64.wrap (64 - (p : Int)) = 64 - (p : Int) := IntWalk.i64_in _ (by omega)
  clear hs hnq
  go_enter Tryd.func110, Tryd.ntmps110
  go_wp2
  rw [hp]
  go_loopw [8] (fun i wr => ∃ k : Nat, 1 ≤ k ∧ k ≤ 4 ∧ i = .int .i64 k ∧ ∃ n, wr = (((w.alloc (.cells #[.int .u64 (lim a 0 : Int), .int .u64 (lim a 1 : Int), .int .u64 (lim a 2 : Int), .int .u64 (lim a 3 : Int)] 81)).alloc (.cells #[.int .u64 0, .int .u64 0, .int .u64 0, .int .u64 0] 81)).alloc (.cells (bigRowL s k) 81)).drewN n) (fun i _ => 4 - (intOf i).toNat)
  case atStart =>
    refine ⟨1, by omega, by omega, rfl, 0, ?_⟩
    simp only [bigRowL]
    rw [HZ0.out]
    rfl
  case round =>
    obtain ⟨k, hk0, hk, rfl, m, rfl⟩ := hrel
    have hk' : k = 1 ∨ k = 2 ∨ k = 3 ∨ k = 4 := by omega
    clear hk hk0
    rcases hk' with rfl | rfl | rfl | rfl
    · simp only [bigRowL, Nat.reduceSub]
      go_wp2
      go_roundw
      case rel =>
        refine ⟨2, by omega, by omega, rfl, m, ?_⟩
        rw [put3c, shl_lo a 1 p, ← HS.out]
        rfl
      case measure => simp [intOf]
    · simp only [bigRowL, Nat.reduceSub]
      go_wp2
      have c1 : (((((w.alloc (.cells #[.int .u64 (lim a 0 : Int), .int .u64 (lim a 1 : Int), .int .u64 (lim a 2 : Int), .int .u64 (lim a 3 : Int)] 81)).alloc (.cells #[.int .u64 0, .int .u64 0, .int .u64 0, .int .u64 0] 81)).alloc (.cells #[.int .u64 (lim s 0 : Int), .int .u64 (lim s 1 : Int), .int .u64 0, .int .u64 0] 81)).drewN m).setCell ⟨w.heap.size + 1 + 1, 2, none⟩ (.int .u64 (IntKind.u64.wrap ((lim a 1 : Int) * 2 ^ p)))).cell? ⟨w.heap.size, 0, none⟩ = some (.int .u64 (lim a 0 : Int)) := by simp [go_sem]
      have c2 : (((((w.alloc (.cells #[.int .u64 (lim a 0 : Int), .int .u64 (lim a 1 : Int), .int .u64 (lim a 2 : Int), .int .u64 (lim a 3 : Int)] 81)).alloc (.cells #[.int .u64 0, .int .u64 0, .int .u64 0, .int .u64 0] 81)).alloc (.cells #[.int .u64 (lim s 0 : Int), .int .u64 (lim s 1 : Int), .int .u64 0, .int .u64 0] 81)).drewN m).setCell ⟨w.heap.size + 1 + 1, 2, none⟩ (.int .u64 (IntKind.u64.wrap ((lim a 1 : Int) * 2 ^ p)))).cell? ⟨w.heap.size + 1 + 1, 2, none⟩ = some (.int .u64 (IntKind.u64.wrap ((lim a 1 : Int) * 2 ^ p))) := by simp [go_sem]
      have f2 : (((((w.alloc (.cells #[.int .u64 (lim a 0 : Int), .int .u64 (lim a 1 : Int), .int .u64 (lim a 2 : Int), .int .u64 (lim a 3 : Int)] 81)).alloc (.cells #[.int .u64 0, .int .u64 0, .int .u64 0, .int .u64 0] 81)).alloc (.cells #[.int .u64 (lim s 0 : Int), .int .u64 (lim s 1 : Int), .int .u64 0, .int .u64 0] 81)).drewN m).setCell ⟨w.heap.size + 1 + 1, 2, none⟩ (.int .u64 (IntKind.u64.wrap ((lim a 1 : Int) * 2 ^ p)))).frozen? ⟨w.heap.size + 1 + 1, 2, none⟩ = false := by simp [go_sem]
      generalize HW : (((((w.alloc (.cells #[.int .u64 (lim a 0 : Int), .int .u64 (lim a 1 : Int), .int .u64 (lim a 2 : Int), .int .u64 (lim a 3 : Int)] 81)).alloc (.cells #[.int .u64 0, .int .u64 0, .int .u64 0, .int .u64 0] 81)).alloc (.cells #[.int .u64 (lim s 0 : Int), .int .u64 (lim s 1 : Int), .int .u64 0, .int .u64 0] 81)).drewN m).setCell ⟨w.heap.size + 1 + 1, 2, none⟩ (.int .u64 (IntKind.u64.wrap ((lim a 1 : Int) * 2 ^ p)))) = W at c1 c2 f2 ⊢
      replace HW := Lib.hid HW
      go_still_tail 14, (by kernel_rfl)
      change wpList _ _ _ _ _ W.drew
      go_wp2
      go_roundw
      case rel =>
        refine ⟨3, by omega, by omega, rfl, m + 1, ?_⟩
        rw [← HW.out, put3c2, shl_hi a 1 p 0 HP.out, ← HS.out]
        rfl
      case measure => simp [intOf]
    · simp only [bigRowL, Nat.reduceSub]
      go_wp2
      have c1 : (((((w.alloc (.cells #[.int .u64 (lim a 0 : Int), .int .u64 (lim a 1 : Int), .int .u64 (lim a 2 : Int), .int .u64 (lim a 3 : Int)] 81)).alloc (.cells #[.int .u64 0, .int .u64 0, .int .u64 0, .int .u64 0] 81)).alloc (.cells #[.int .u64 (lim s 0 : Int), .int .u64 (lim s 1 : Int), .int .u64 (lim s 2 : Int), .int .u64 0] 81)).drewN m).setCell ⟨w.heap.size + 1 + 1, 3, none⟩ (.int .u64 (IntKind.u64.wrap ((lim a 2 : Int) * 2 ^ p)))).cell? ⟨w.heap.size, 1, none⟩ = some (.int .u64 (lim a 1 : Int)) := by simp [go_sem]
      have c2 : (((((w.alloc (.cells #[.int .u64 (lim a 0 : Int), .int .u64 (lim a 1 : Int), .int .u64 (lim a 2 : Int), .int .u64 (lim a 3 : Int)] 81)).alloc (.cells #[.int .u64 0, .int .u64 0, .int .u64 0, .int .u64 0] 81)).alloc (.cells #[.int .u64 (lim s 0 : Int), .int .u64 (lim s 1 : Int), .int .u64 (lim s 2 : Int), .int .u64 0] 81)).drewN m).setCell ⟨w.heap.size + 1 + 1, 3, none⟩ (.int .u64 (IntKind.u64.wrap ((lim a 2 : Int) * 2 ^ p)))).cell? ⟨w.heap.size + 1 + 1, 3, none⟩ = some (.int .u64 (IntKind.u64.wrap ((lim a 2 : Int) * 2 ^ p))) := by simp [go_sem]
      have f2 : (((((w.alloc (.cells #[.int .u64 (lim a 0 : Int), .int .u64 (lim a 1 : Int), .int .u64 (lim a 2 : Int), .int .u64 (lim a 3 : Int)] 81)).alloc (.cells #[.int .u64 0, .int .u64 0, .int .u64 0, .int .u64 0] 81)).alloc (.cells #[.int .u64 (lim s 0 : Int), .int .u64 (lim s 1 : Int), .int .u64 (lim s 2 : Int), .int .u64 0] 81)).drewN m).setCell ⟨w.heap.size + 1 + 1, 3, none⟩ (.int .u64 (IntKind.u64.wrap ((lim a 2 : Int) * 2 ^ p)))).frozen? ⟨w.heap.size + 1 + 1, 3, none⟩ = false := by simp [go_sem]
      generalize HW : (((((w.alloc (.cells #[.int .u64 (lim a 0 : Int), .int .u64 (lim a 1 : Int), .int .u64 (lim a 2 : Int), .int .u64 (lim a 3 : Int)] 81)).alloc (.cells #[.int .u64 0, .int .u64 0, .int .u64 0, .int .u64 0] 81)).alloc (.cells #[.int .u64 (lim s 0 : Int), .int .u64 (lim s 1 : Int), .int .u64 (lim s 2 : Int), .int .u64 0] 81)).drewN m).setCell ⟨w.heap.size + 1 + 1, 3, none⟩ (.int .u64 (IntKind.u64.wrap ((lim a 2 : Int) * 2 ^ p)))) = W at c1 c2 f2 ⊢
      replace HW := Lib.hid HW
      go_still_tail 14, (by kernel_rfl)
      change wpList _ _ _ _ _ W.drew
      go_wp2
      go_roundw
      case rel =>
        refine ⟨4, by omega, by omega, rfl, m + 1, ?_⟩
        rw [← HW.out, put3c2, shl_hi a 1 p 1 HP.out, ← HS.out]
        rfl
      case measure => simp [intOf]
    · simp only [bigRowL, Nat.reduceSub]
      go_wp2
      exact bodyPost_ret (v := .agg #[.int .u64 (lim s 0 : Int), .int .u64 (lim s 1 : Int), .int .u64 (lim s 2 : Int), .int .u64 (lim s 3 : Int)]) (by simp [results, Tryd.results110, go_sem]) rfl ⟨rfl, by repeat (first | exact Nx.refl _ | apply Nx.drewN | apply Nx.alloc | refine Nx.setAt ?_ _ (by omega))⟩

set_option maxHeartbeats 2000000 in
theorem left_2 (a n p s : Nat) (w : World) (hn : (n : Int) ≤ 9223372036854775807) (hq : (n : Int) / 64 = 2) (hp : (n : Int) % 64 = (p : Int)) (hs : s = a * 2 ^ n) :
    Calls Tryd.prog 110 #[.agg #[.int .u64 (lim a 0 : Int), .int .u64 (lim a 1 : Int), .int .u64 (lim a 2 : Int), .int .u64 (lim a 3 : Int)], .int .i64 (n : Int)] w fun e w' => e = .returned (.agg #[.int .u64 (lim s 0 : Int), .int .u64 (lim s 1 : Int), .int .u64 (lim s 2 : Int), .int .u64 (lim s 3 : Int)]) ∧ Nx w w' := by
  have hnq : n = 64 * 2 + p := by omega
  have HP : Hid (p < 64) := show p < 64 by omega
  have HS : Hid (s = a * 2 ^ (64 * 2 + p)) := show _ = _ by rw [hs, hnq]
  have HZ0 : Hid (lim s 0 = 0) := show _ = _ by rw [HS.out]; exact shl_zero a 2 p 0 (by omega)
  have HZ1 : Hid (lim s 1 = 0) := show _ = _ by rw [HS.out]; exact shl_zero a 2 p 1 (by omega)
  have hd0 : (0 : Int) ≤ 64 - (p : Int) := by omega
  have hd1 : 64 - (p : Int) ≤ 64 := by omega
  have hp1 : (p : Int) ≤ 64 := by omega
  have hw0 : IntKind.i64.wrap 0 = 0 := by decide
  have hw1 : IntKind.i64.wrap 1 = 1 := by decide
  have hw2 : IntKind.i64.wrap 2 = 2 := by decide
  have hw3 : IntKind.i64.wrap 3 = 3 := by decide
  have hwp : IntKind.i64.wrap (64 - (p : Int)) = 64 - (p : Int) := IntWalk.i64_in _ (by omega)
  clear hs hnq
  go_enter Tryd.func110, Tryd.ntmps110
  go_wp2
  rw [hp]
  go_loopw [8] (fun i wr => ∃ k : Nat, 2 ≤ k ∧ k ≤ 4 ∧ i = .int .i64 k ∧ ∃ n, wr = (((w.alloc (.cells #[.int .u64 (lim a 0 : Int), .int .u64 (lim a 1 : Int), .int .u64 (lim a 2 : Int), .int .u64 (lim a 3 : Int)] 81)).alloc (.cells #[.int .u64 0, .int .u64 0, .int .u64 0, .int .u64 0] 81)).alloc (.cells (bigRowL s k) 81)).drewN n) (fun i _ => 4 - (intOf i).toNat)
  case atStart =>
    refine ⟨2, by omega, by omega, rfl, 0, ?_⟩
    simp only [bigRowL]
    rw [HZ0.out, HZ1.out]
    rfl
  case round =>
    obtain ⟨k, hk0, hk, rfl, m, rfl⟩ := hrel
    have hk' : k = 2 ∨ k = 3 ∨ k = 4 := by omega
    clear hk hk0
    rcases hk' with rfl | rfl | rfl
    · simp only [bigRowL, Nat.reduceSub]
      go_wp2
      go_roundw
      case rel =>
        refine ⟨3, by omega, by omega, rfl, m, ?_⟩
        rw [put3c, shl_lo a 2 p, ← HS.out]
        rfl
      case measure => simp [intOf]
    · simp only [bigRowL, Nat.reduceSub]
      go_wp2
      have c1 : (((((w.alloc (.cells #[.int .u64 (lim a 0 : Int), .int .u64 (lim a 1 : Int), .int .u64 (lim a 2 : Int), .int .u64 (lim a 3 : Int)] 81)).alloc (.cells #[.int .u64 0, .int .u64 0, .int .u64 0, .int .u64 0] 81)).alloc (.cells #[.int .u64 (lim s 0 : Int), .int .u64 (lim s 1 : Int), .int .u64 (lim s 2 : Int), .int .u64 0] 81)).drewN m).setCell ⟨w.heap.size + 1 + 1, 3, none⟩ (.int .u64 (IntKind.u64.wrap ((lim a 1 : Int) * 2 ^ p)))).cell? ⟨w.heap.size, 0, none⟩ = some (.int .u64 (lim a 0 : Int)) := by simp [go_sem]
      have c2 : (((((w.alloc (.cells #[.int .u64 (lim a 0 : Int), .int .u64 (lim a 1 : Int), .int .u64 (lim a 2 : Int), .int .u64 (lim a 3 : Int)] 81)).alloc (.cells #[.int .u64 0, .int .u64 0, .int .u64 0, .int .u64 0] 81)).alloc (.cells #[.int .u64 (lim s 0 : Int), .int .u64 (lim s 1 : Int), .int .u64 (lim s 2 : Int), .int .u64 0] 81)).drewN m).setCell ⟨w.heap.size + 1 + 1, 3, none⟩ (.int .u64 (IntKind.u64.wrap ((lim a 1 : Int) * 2 ^ p)))).cell? ⟨w.heap.size + 1 + 1, 3, none⟩ = some (.int .u64 (IntKind.u64.wrap ((lim a 1 : Int) * 2 ^ p))) := by simp [go_sem]
      have f2 : (((((w.alloc (.cells #[.int .u64 (lim a 0 : Int), .int .u64 (lim a 1 : Int), .int .u64 (lim a 2 : Int), .int .u64 (lim a 3 : Int)] 81)).alloc (.cells #[.int .u64 0, .int .u64 0, .int .u64 0, .int .u64 0] 81)).alloc (.cells #[.int .u64 (lim s 0 : Int), .int .u64 (lim s 1 : Int), .int .u64 (lim s 2 : Int), .int .u64 0] 81)).drewN m).setCell ⟨w.heap.size + 1 + 1, 3, none⟩ (.int .u64 (IntKind.u64.wrap ((lim a 1 : Int) * 2 ^ p)))).frozen? ⟨w.heap.size + 1 + 1, 3, none⟩ = false := by simp [go_sem]
      generalize HW : (((((w.alloc (.cells #[.int .u64 (lim a 0 : Int), .int .u64 (lim a 1 : Int), .int .u64 (lim a 2 : Int), .int .u64 (lim a 3 : Int)] 81)).alloc (.cells #[.int .u64 0, .int .u64 0, .int .u64 0, .int .u64 0] 81)).alloc (.cells #[.int .u64 (lim s 0 : Int), .int .u64 (lim s 1 : Int), .int .u64 (lim s 2 : Int), .int .u64 0] 81)).drewN m).setCell ⟨w.heap.size + 1 + 1, 3, none⟩ (.int .u64 (IntKind.u64.wrap ((lim a 1 : Int) * 2 ^ p)))) = W at c1 c2 f2 ⊢
      replace HW := Lib.hid HW
      go_still_tail 14, (by kernel_rfl)
      change wpList _ _ _ _ _ W.drew
      go_wp2
      go_roundw
      case rel =>
        refine ⟨4, by omega, by omega, rfl, m + 1, ?_⟩
        rw [← HW.out, put3c2, shl_hi a 2 p 0 HP.out, ← HS.out]
        rfl
      case measure => simp [intOf]
    · simp only [bigRowL, Nat.reduceSub]
      go_wp2
      exact bodyPost_ret (v := .agg #[.int .u64 (lim s 0 : Int), .int .u64 (lim s 1 : Int), .int .u64 (lim s 2 : Int), .int .u64 (lim s 3 : Int)]) (by simp [results, Tryd.results110, go_sem]) rfl ⟨rfl, by repeat (first | exact Nx.refl _ | apply Nx.drewN | apply Nx.alloc | refine Nx.setAt ?_ _ (by omega))⟩

set_option maxHeartbeats 2000000 in
theorem left_3 (a n p s : Nat) (w : World) (hn : (n : Int) ≤ 9223372036854775807) (hq : (n : Int) / 64 = 3) (hp : (n : Int) % 64 = (p : Int)) (hs : s = a * 2 ^ n) :
    Calls Tryd.prog 110 #[.agg #[.int .u64 (lim a 0 : Int), .int .u64 (lim a 1 : Int), .int .u64 (lim a 2 : Int), .int .u64 (lim a 3 : Int)], .int .i64 (n : Int)] w fun e w' => e = .returned (.agg #[.int .u64 (lim s 0 : Int), .int .u64 (lim s 1 : Int), .int .u64 (lim s 2 : Int), .int .u64 (lim s 3 : Int)]) ∧ Nx w w' := by
  have hnq : n = 64 * 3 + p := by omega
  have HP : Hid (p < 64) := show p < 64 by omega
  have HS : Hid (s = a * 2 ^ (64 * 3 + p)) := show _ = _ by rw [hs, hnq]
  have HZ0 : Hid (lim s 0 = 0) := show _ = _ by rw [HS.out]; exact shl_zero a 3 p 0 (by omega)
  have HZ1 : Hid (lim s 1 = 0) := show _ = _ by rw [HS.out]; exact shl_zero a 3 p 1 (by omega)
  have HZ2 : Hid (lim s 2 = 0) := show _ = _ by rw [HS.out]; exact shl_zero a 3 p 2 (by omega)
  have hd0 : (0 : Int) ≤ 64 - (p : Int) := by omega
  have hd1 : 64 - (p : Int) ≤ 64 := by omega
  have hp1 : (p : Int) ≤ 64 := by omega
  have hw0 : IntKind.i64.wrap 0 = 0 := by decide
  have hw1 : IntKind.i64.wrap 1 = 1 := by decide
  have hw2 : IntKind.i64.wrap 2 = 2 := by decide
  have hw3 : IntKind.i64.wrap 3 = 3 := by decide
  have hwp : IntKind.i64.wrap (64 - (p : Int)) = 64 - (p : Int) := IntWalk.i64_in _ (by omega)
  clear hs hnq
  go_enter Tryd.func110, Tryd.ntmps110
  go_wp2
  rw [hp]
  go_loopw [8] (fun i wr => ∃ k : Nat, 3 ≤ k ∧ k ≤ 4 ∧ i = .int .i64 k ∧ ∃ n, wr = (((w.alloc (.cells #[.int .u64 (lim a 0 : Int), .int .u64 (lim a 1 : Int), .int .u64 (lim a 2 : Int), .int .u64 (lim a 3 : Int)] 81)).alloc (.cells #[.int .u64 0, .int .u64 0, .int .u64 0, .int .u64 0] 81)).alloc (.cells (bigRowL s k) 81)).drewN n) (fun i _ => 4 - (intOf i).toNat)
  case atStart =>
    refine ⟨3, by omega, by omega, rfl, 0, ?_⟩
    simp only [bigRowL]
    rw [HZ0.out, HZ1.out, HZ2.out]
    rfl
  case round =>
    obtain ⟨k, hk0, hk, rfl, m, rfl⟩ := hrel
    have hk' : k = 3 ∨ k = 4 := by omega
    clear hk hk0
    rcases hk' with rfl | rfl
    · simp only [bigRowL, Nat.reduceSub]
      go_wp2
      go_roundw
      case rel =>
        refine ⟨4, by omega, by omega, rfl, m, ?_⟩
        rw [put3c, shl_lo a 3 p, ← HS.out]
        rfl
      case measure => simp [intOf]
    · simp only [bigRowL, Nat.reduceSub]
      go_wp2
      exact bodyPost_ret (v := .agg #[.int .u64 (lim s 0 : Int), .int .u64 (lim s 1 : Int), .int .u64 (lim s 2 : Int), .int .u64 (lim s 3 : Int)]) (by simp [results, Tryd.results110, go_sem]) rfl ⟨rfl, by repeat (first | exact Nx.refl _ | apply Nx.drewN | apply Nx.alloc | refine Nx.setAt ?_ _ (by omega))⟩
end Go.Proofs.YtjbeemoobmagnaaDoor
end

section
namespace Go.Proofs.YtjbeemoobmagnaaDoor
open Go.RowKit
set_option linter.unusedVariables false
set_option linter.unusedSimpArgs false

set_option maxHeartbeats 1000000 in
theorem left_far (a n : Nat) (w : World) (hn : (n : Int) ≤ 9223372036854775807) (h : ¬ (n : Int) / 64 < 4) :
    Calls Tryd.prog 110 #[.agg #[.int .u64 (lim a 0 : Int), .int .u64 (lim a 1 : Int), .int .u64 (lim a 2 : Int), .int .u64 (lim a 3 : Int)], .int .i64 (n : Int)] w fun e w' => e = .returned (.agg #[.int .u64 0, .int .u64 0, .int .u64 0, .int .u64 0]) ∧ Nx w w' := by
  go_enter Tryd.func110, Tryd.ntmps110
  go_wp2
  go_loopw [8] (fun i wr => i = .int .i64 ((n : Int) / 64) ∧ wr = ((w.alloc (.cells #[.int .u64 (lim a 0 : Int), .int .u64 (lim a 1 : Int), .int .u64 (lim a 2 : Int), .int .u64 (lim a 3 : Int)] 81)).alloc (.cells #[.int .u64 0, .int .u64 0, .int .u64 0, .int .u64 0] 81)).alloc (.cells #[.int .u64 0, .int .u64 0, .int .u64 0, .int .u64 0] 81)) (fun i _ => 0)
  case atStart => exact ⟨rfl, rfl⟩
  case round =>
    obtain ⟨rfl, rfl⟩ := hrel
    go_wp2
    exact bodyPost_ret (v := .agg #[.int .u64 0, .int .u64 0, .int .u64 0, .int .u64 0]) (by simp [results, Tryd.results110, go_sem]) rfl ⟨rfl, by repeat (first | exact Nx.refl _ | apply Nx.drewN | apply Nx.alloc | refine Nx.setAt ?_ _ (by omega))⟩
set_option maxHeartbeats 1000000 in
theorem left_neg (a : Nat) (n : Int) (w : World) (hn : n < 0) :
    Calls Tryd.prog 110 #[.agg #[.int .u64 (lim a 0 : Int), .int .u64 (lim a 1 : Int), .int .u64 (lim a 2 : Int), .int .u64 (lim a 3 : Int)], .int .i64 n] w fun e w' => e = .returned (.agg #[.int .u64 (lim a 0 : Int), .int .u64 (lim a 1 : Int), .int .u64 (lim a 2 : Int), .int .u64 (lim a 3 : Int)]) ∧ Nx w w' := by
  go_enter Tryd.func110, Tryd.ntmps110
  go_wp2
  exact bodyPost_ret (v := .agg #[.int .u64 (lim a 0 : Int), .int .u64 (lim a 1 : Int), .int .u64 (lim a 2 : Int), .int .u64 (lim a 3 : Int)]) (by simp [results, Tryd.results110, go_sem]) rfl ⟨rfl, by repeat (first | exact Nx.refl _ | apply Nx.drewN | apply Nx.alloc | refine Nx.setAt ?_ _ (by omega))⟩
/-- A number moved up, without what is above. -/
def leftN (a : Nat) (n : Int) : Nat := if n < 0 then a else a * 2 ^ n.toNat % top
theorem left_zero (a n : Nat) (h : 256 ≤ n) : a * 2 ^ n % top = 0 := by
  rw [top_eq, show n = 256 + (n - 256) by omega, Nat.pow_add, show a * (2 ^ 256 * 2 ^ (n - 256)) = 2 ^ 256 * (a * 2 ^ (n - 256)) by rw [Nat.mul_left_comm]]
  exact Nat.mul_mod_right _ _
theorem lim_nought : lim 0 0 = 0 ∧ lim 0 1 = 0 ∧ lim 0 2 = 0 ∧ lim 0 3 = 0 := by decide

theorem left_any (a : Nat) (n : Int) (w : World) (hn : n ≤ 9223372036854775807) :
    Calls Tryd.prog 110 #[.agg #[.int .u64 (lim a 0 : Int), .int .u64 (lim a 1 : Int), .int .u64 (lim a 2 : Int), .int .u64 (lim a 3 : Int)], .int .i64 n] w fun e w' => e = .returned (.agg #[.int .u64 (lim (leftN a n) 0 : Int), .int .u64 (lim (leftN a n) 1 : Int), .int .u64 (lim (leftN a n) 2 : Int), .int .u64 (lim (leftN a n) 3 : Int)]) ∧ Nx w w' := by
  unfold leftN
  by_cases h0 : n < 0
  · rw [if_pos h0]
    exact left_neg a n w h0
  · rw [if_neg h0]
    obtain ⟨m, rfl⟩ := Int.eq_ofNat_of_zero_le (show 0 ≤ n by omega)
    simp only [Int.toNat_natCast]
    obtain ⟨e0, e1, e2, e3⟩ := lim_mod (a * 2 ^ m)
    rw [e0, e1, e2, e3]
    by_cases h4 : (m : Int) / 64 < 4
    · obtain ⟨p, hp⟩ : ∃ p : Nat, (m : Int) % 64 = (p : Int) := ⟨m % 64, by omega⟩
      have hq : (m : Int) / 64 = 0 ∨ (m : Int) / 64 = 1 ∨ (m : Int) / 64 = 2 ∨ (m : Int) / 64 = 3 := by omega
      rcases hq with hq | hq | hq | hq
      · exact left_0 a m p _ w hn hq hp rfl
      · exact left_1 a m p _ w hn hq hp rfl
      · exact left_2 a m p _ w hn hq hp rfl
      · exact left_3 a m p _ w hn hq hp rfl
    · have hz := left_zero a m (by omega)
      rw [← e0, ← e1, ← e2, ← e3, hz]
      obtain ⟨z0, z1, z2, z3⟩ := lim_nought
      rw [z0, z1, z2, z3]
      exact left_far a m w hn h4
end Go.Proofs.YtjbeemoobmagnaaDoor
end

section
namespace Go.Proofs.YtjbeemoobmagnaaDoor
open Go.RowKit
set_option linter.unusedVariables false
set_option linter.unusedSimpArgs false
set_option maxRecDepth 20000

set_option maxHeartbeats 2000000 in
theorem right_0 (a n p s : Nat) (w : World) (ha : a < top) (hn : (n : Int) ≤ 9223372036854775807) (hq : (n : Int) / 64 = 0) (hp : (n : Int) % 64 = (p : Int)) (hs : s = a / 2 ^ n) :
    Calls Tryd.prog 109 #[.agg #[.int .u64 (lim a 0 : Int), .int .u64 (lim a 1 : Int), .int .u64 (lim a 2 : Int), .int .u64 (lim a 3 : Int)], .int .i64 (n : Int)] w fun e w' => e = .returned (.agg #[.int .u64 (lim s 0 : Int), .int .u64 (lim s 1 : Int), .int .u64 (lim s 2 : Int), .int .u64 (lim s 3 : Int)]) ∧ Nx w w' := by
  have hnq : n = 64 * 0 + p := by omega
  have HP : Hid (p < 64) := show p < 64 by omega
  have HS : Hid (s = a / 2 ^ (64 * 0 + p)) := show _ = _ by rw [hs, hnq]
  have HA := Lib.hid ha
  clear ha
  have hd0 : (0 : Int) ≤ 64 - (p : Int) := by omega
  have hd1 : 64 - (p : Int) ≤ 64 := by omega
  have hp1 : (p : Int) ≤ 64 := by omega
  have hw0 : IntKind.i64.wrap 0 = 0 := by decide
  have hw1 : IntKind.i64.wrap 1 = 1 := by decide
  have hw2 : IntKind.i64.wrap 2 = 2 := by decide
  have hw3 : IntKind.i64.wrap 3 = 3 := by decide
  have hwp : IntKind.i64.wrap (64 - (p : Int)) = 64 - (p : Int) := IntWalk.i64_in _ (by omega)
  clear hs hnq
  go_enter Tryd.func109, Tryd.ntmps109
  go_wp2
  rw [hp]
  go_loopw [8] (fun i wr => ∃ k : Nat, 0 ≤ k ∧ k ≤ 4 ∧ i = .int .i64 k ∧ ∃ n, wr = (((w.alloc (.cells #[.int .u64 (lim a 0 : Int), .int .u64 (lim a 1 : Int), .int .u64 (lim a 2 : Int), .int .u64 (lim a 3 : Int)] 81)).alloc (.cells #[.int .u64 0, .int .u64 0, .int .u64 0, .int .u64 0] 81)).alloc (.cells (bigRowL s (k - 0)) 81)).drewN n) (fun i _ => 4 - (intOf i).toNat)
  case atStart =>
    refine ⟨0, by omega, by omega, rfl, 0, ?_⟩
    rfl
  case round =>
    obtain ⟨k, hk0, hk, rfl, m, rfl⟩ := hrel
    have hk' : k = 0 ∨ k = 1 ∨ k = 2 ∨ k = 3 ∨ k = 4 := by omega
    clear hk hk0
    rcases hk' with rfl | rfl | rfl | rfl | rfl
    · simp only [bigRowL, Nat.reduceSub]
      go_wp2
      have c1 : (((((w.alloc (.cells #[.int .u64 (lim a 0 : Int), .int .u64 (lim a 1 : Int), .int .u64 (lim a 2 : Int), .int .u64 (lim a 3 : Int)] 81)).alloc (.cells #[.int .u64 0, .int .u64 0, .int .u64 0, .int .u64 0] 81)).alloc (.cells #[.int .u64 0, .int .u64 0, .int .u64 0, .int .u64 0] 81)).drewN m).setCell ⟨w.heap.size + 1 + 1, 0, none⟩ (.int .u64 ((lim a 0 : Int) / 2 ^ p))).cell? ⟨w.heap.size, 1, none⟩ = some (.int .u64 (lim a 1 : Int)) := by simp [go_sem]
      have c2 : (((((w.alloc (.cells #[.int .u64 (lim a 0 : Int), .int .u64 (lim a 1 : Int), .int .u64 (lim a 2 : Int), .int .u64 (lim a 3 : Int)] 81)).alloc (.cells #[.int .u64 0, .int .u64 0, .int .u64 0, .int .u64 0] 81)).alloc (.cells #[.int .u64 0, .int .u64 0, .int .u64 0, .int .u64 0] 81)).drewN m).setCell ⟨w.heap.size + 1 + 1, 0, none⟩ (.int .u64 ((lim a 0 : Int) / 2 ^ p))).cell? ⟨w.heap.size + 1 + 1, 0, none⟩ = some (.int .u64 ((lim a 0 : Int) / 2 ^ p)) := by simp [go_sem]
      have f2 : (((((w.alloc (.cells #[.int .u64 (lim a 0 : Int), .int .u64 (lim a 1 : Int), .int .u64 (lim a 2 : Int), .int .u64 (lim a 3 : Int)] 81)).alloc (.cells #[.int .u64 0, .int .u64 0, .int .u64 0, .int .u64 0] 81)).alloc (.cells #[.int .u64 0, .int .u64 0, .int .u64 0, .int .u64 0] 81)).drewN m).setCell ⟨w.heap.size + 1 + 1, 0, none⟩ (.int .u64 ((lim a 0 : Int) / 2 ^ p))).frozen? ⟨w.heap.size + 1 + 1, 0, none⟩ = false := by simp [go_sem]
      generalize HW : (((((w.alloc (.cells #[.int .u64 (lim a 0 : Int), .int .u64 (lim a 1 : Int), .int .u64 (lim a 2 : Int), .int .u64 (lim a 3 : Int)] 81)).alloc (.cells #[.int .u64 0, .int .u64 0, .int .u64 0, .int .u64 0] 81)).alloc (.cells #[.int .u64 0, .int .u64 0, .int .u64 0, .int .u64 0] 81)).drewN m).setCell ⟨w.heap.size + 1 + 1, 0, none⟩ (.int .u64 ((lim a 0 : Int) / 2 ^ p))) = W at c1 c2 f2 ⊢
      replace HW := Lib.hid HW
      go_still_tail 14, (by kernel_rfl)
      change wpList _ _ _ _ _ W.drew
      go_wp2
      go_roundw
      case rel =>
        refine ⟨1, by omega, by omega, rfl, m + 1, ?_⟩
        rw [← HW.out, put3c2, shr_hi a 0 p 0 HP.out, ← HS.out]
        rfl
      case measure => simp [intOf]
    · simp only [bigRowL, Nat.reduceSub]
      go_wp2
      have c1 : (((((w.alloc (.cells #[.int .u64 (lim a 0 : Int), .int .u64 (lim a 1 : Int), .int .u64 (lim a 2 : Int), .int .u64 (lim a 3 : Int)] 81)).alloc (.cells #[.int .u64 0, .int .u64 0, .int .u64 0, .int .u64 0] 81)).alloc (.cells #[.int .u64 (lim s 0 : Int), .int .u64 0, .int .u64 0, .int .u64 0] 81)).drewN m).setCell ⟨w.heap.size + 1 + 1, 1, none⟩ (.int .u64 ((lim a 1 : Int) / 2 ^ p))).cell? ⟨w.heap.size, 2, none⟩ = some (.int .u64 (lim a 2 : Int)) := by simp [go_sem]
      have c2 : (((((w.alloc (.cells #[.int .u64 (lim a 0 : Int), .int .u64 (lim a 1 : Int), .int .u64 (lim a 2 : Int), .int .u64 (lim a 3 : Int)] 81)).alloc (.cells #[.int .u64 0, .int .u64 0, .int .u64 0, .int .u64 0] 81)).alloc (.cells #[.int .u64 (lim s 0 : Int), .int .u64 0, .int .u64 0, .int .u64 0] 81)).drewN m).setCell ⟨w.heap.size + 1 + 1, 1, none⟩ (.int .u64 ((lim a 1 : Int) / 2 ^ p))).cell? ⟨w.heap.size + 1 + 1, 1, none⟩ = some (.int .u64 ((lim a 1 : Int) / 2 ^ p)) := by simp [go_sem]
      have f2 : (((((w.alloc (.cells #[.int .u64 (lim a 0 : Int), .int .u64 (lim a 1 : Int), .int .u64 (lim a 2 : Int), .int .u64 (lim a 3 : Int)] 81)).alloc (.cells #[.int .u64 0, .int .u64 0, .int .u64 0, .int .u64 0] 81)).alloc (.cells #[.int .u64 (lim s 0 : Int), .int .u64 0, .int .u64 0, .int .u64 0] 81)).drewN m).setCell ⟨w.heap.size + 1 + 1, 1, none⟩ (.int .u64 ((lim a 1 : Int) / 2 ^ p))).frozen? ⟨w.heap.size + 1 + 1, 1, none⟩ = false := by simp [go_sem]
      generalize HW : (((((w.alloc (.cells #[.int .u64 (lim a 0 : Int), .int .u64 (lim a 1 : Int), .int .u64 (lim a 2 : Int), .int .u64 (lim a 3 : Int)] 81)).alloc (.cells #[.int .u64 0, .int .u64 0, .int .u64 0, .int .u64 0] 81)).alloc (.cells #[.int .u64 (lim s 0 : Int), .int .u64 0, .int .u64 0, .int .u64 0] 81)).drewN m).setCell ⟨w.heap.size + 1 + 1, 1, none⟩ (.int .u64 ((lim a 1 : Int) / 2 ^ p))) = W at c1 c2 f2 ⊢
      replace HW := Lib.hid HW
      go_still_tail 14, (by kernel_rfl)
      change wpList _ _ _ _ _ W.drew
      go_wp2
      go_roundw
      case rel =>
        refine ⟨2, by omega, by omega, rfl, m + 1, ?_⟩
        rw [← HW.out, put3c2, shr_hi a 0 p 1 HP.out, ← HS.out]
        rfl
      case measure => simp [intOf]
    · simp only [bigRowL, Nat.reduceSub]
      go_wp2
      have c1 : (((((w.alloc (.cells #[.int .u64 (lim a 0 : Int), .int .u64 (lim a 1 : Int), .int .u64 (lim a 2 : Int), .int .u64 (lim a 3 : Int)] 81)).alloc (.cells #[.int .u64 0, .int .u64 0, .int .u64 0, .int .u64 0] 81)).alloc (.cells #[.int .u64 (lim s 0 : Int), .int .u64 (lim s 1 : Int), .int .u64 0, .int .u64 0] 81)).drewN m).setCell ⟨w.heap.size + 1 + 1, 2, none⟩ (.int .u64 ((lim a 2 : Int) / 2 ^ p))).cell? ⟨w.heap.size, 3, none⟩ = some (.int .u64 (lim a 3 : Int)) := by simp [go_sem]
      have c2 : (((((w.alloc (.cells #[.int .u64 (lim a 0 : Int), .int .u64 (lim a 1 : Int), .int .u64 (lim a 2 : Int), .int .u64 (lim a 3 : Int)] 81)).alloc (.cells #[.int .u64 0, .int .u64 0, .int .u64 0, .int .u64 0] 81)).alloc (.cells #[.int .u64 (lim s 0 : Int), .int .u64 (lim s 1 : Int), .int .u64 0, .int .u64 0] 81)).drewN m).setCell ⟨w.heap.size + 1 + 1, 2, none⟩ (.int .u64 ((lim a 2 : Int) / 2 ^ p))).cell? ⟨w.heap.size + 1 + 1, 2, none⟩ = some (.int .u64 ((lim a 2 : Int) / 2 ^ p)) := by simp [go_sem]
      have f2 : (((((w.alloc (.cells #[.int .u64 (lim a 0 : Int), .int .u64 (lim a 1 : Int), .int .u64 (lim a 2 : Int), .int .u64 (lim a 3 : Int)] 81)).alloc (.cells #[.int .u64 0, .int .u64 0, .int .u64 0, .int .u64 0] 81)).alloc (.cells #[.int .u64 (lim s 0 : Int), .int .u64 (lim s 1 : Int), .int .u64 0, .int .u64 0] 81)).drewN m).setCell ⟨w.heap.size + 1 + 1, 2, none⟩ (.int .u64 ((lim a 2 : Int) / 2 ^ p))).frozen? ⟨w.heap.size + 1 + 1, 2, none⟩ = false := by simp [go_sem]
      generalize HW : (((((w.alloc (.cells #[.int .u64 (lim a 0 : Int), .int .u64 (lim a 1 : Int), .int .u64 (lim a 2 : Int), .int .u64 (lim a 3 : Int)] 81)).alloc (.cells #[.int .u64 0, .int .u64 0, .int .u64 0, .int .u64 0] 81)).alloc (.cells #[.int .u64 (lim s 0 : Int), .int .u64 (lim s 1 : Int), .int .u64 0, .int .u64 0] 81)).drewN m).setCell ⟨w.heap.size + 1 + 1, 2, none⟩ (.int .u64 ((lim a 2 : Int) / 2 ^ p))) = W at c1 c2 f2 ⊢
      replace HW := Lib.hid HW
      go_still_tail 14, (by kernel_rfl)
      change wpList _ _ _ _ _ W.drew
      go_wp2
      go_roundw
      case rel =>
        refine ⟨3, by omega, by omega, rfl, m + 1, ?_⟩
        rw [← HW.out, put3c2, shr_hi a 0 p 2 HP.out, ← HS.out]
        rfl
      case measure => simp [intOf]
    · simp only [bigRowL, Nat.reduceSub]
      go_wp2
      go_roundw
      case rel =>
        refine ⟨4, by omega, by omega, rfl, m, ?_⟩
        rw [put3c, shr_last a 0 p 3 HP.out HA.out (by omega), ← HS.out]
        rfl
      case measure => simp [intOf]
    · simp only [bigRowL, Nat.reduceSub]
      go_wp2
      exact bodyPost_ret (v := .agg #[.int .u64 (lim s 0 : Int), .int .u64 (lim s 1 : Int), .int .u64 (lim s 2 : Int), .int .u64 (lim s 3 : Int)]) (by simp [results, Tryd.results109, go_sem]) rfl ⟨rfl, by repeat (first | exact Nx.refl _ | apply Nx.drewN | apply Nx.alloc | refine Nx.setAt ?_ _ (by omega))⟩

set_option maxHeartbeats 2000000 in
theorem right_1 (a n p s : Nat) (w : World) (ha : a < top) (hn : (n : Int) ≤ 9223372036854775807) (hq : (n : Int) / 64 = 1) (hp : (n : Int) % 64 = (p : Int)) (hs : s = a / 2 ^ n) :
    Calls Tryd.prog 109 #[.agg #[.int .u64 (lim a 0 : Int), .int .u64 (lim a 1 : Int), .int .u64 (lim a 2 : Int), .int .u64 (lim a 3 : Int)], .int .i64 (n : Int)] w fun e w' => e = .returned (.agg #[.int .u64 (lim s 0 : Int), .int .u64 (lim s 1 : Int), .int .u64 (lim s 2 : Int), .int .u64 (lim s 3 : Int)]) ∧ Nx w w' := by
  have hnq : n = 64 * 1 + p := by omega
  have HP : Hid (p < 64) := show p < 64 by omega
  have HS : Hid (s = a / 2 ^ (64 * 1 + p)) := show _ = _ by rw [hs, hnq]
  have HA := Lib.hid ha
  clear ha
  have HZ3 : Hid (lim s 3 = 0) := show _ = _ by rw [HS.out]; exact bshr_zero a 1 p 3 HA.out (by omega)
  have hd0 : (0 : Int) ≤ 64 - (p : Int) := by omega
  have hd1 : 64 - (p : Int) ≤ 64 := by omega
  have hp1 : (p : Int) ≤ 64 := by omega
  have hw0 : IntKind.i64.wrap 0 = 0 := by decide
  have hw1 : IntKind.i64.wrap 1 = 1 := by decide
  have hw2 : IntKind.i64.wrap 2 = 2 := by decide
  have hw3 : IntKind.i64.wrap 3 = 3 := by decide
  have hwp : IntKind.i64.wrap (64 - (p : Int)) = 64 - (p : Int) := IntWalk.i64_in _ (by omega)
  clear hs hnq
  go_enter Tryd.func109, Tryd.ntmps109
  go_wp2
  rw [hp]
  go_loopw [8] (fun i wr => ∃ k : Nat, 1 ≤ k ∧ k ≤ 4 ∧ i = .int .i64 k ∧ ∃ n, wr = (((w.alloc (.cells #[.int .u64 (lim a 0 : Int), .int .u64 (lim a 1 : Int), .int .u64 (lim a 2 : Int), .int .u64 (lim a 3 : Int)] 81)).alloc (.cells #[.int .u64 0, .int .u64 0, .int .u64 0, .int .u64 0] 81)).alloc (.cells (bigRowL s (k - 1)) 81)).drewN n) (fun i _ => 4 - (intOf i).toNat)
  case atStart =>
    refine ⟨1, by omega, by omega, rfl, 0, ?_⟩
    rfl
  case round =>
    obtain ⟨k, hk0, hk, rfl, m, rfl⟩ := hrel
    have hk' : k = 1 ∨ k = 2 ∨ k = 3 ∨ k = 4 := by omega
    clear hk hk0
    rcases hk' with rfl | rfl | rfl | rfl
    · simp only [bigRowL, Nat.reduceSub]
      go_wp2
      have c1 : (((((w.alloc (.cells #[.int .u64 (lim a 0 : Int), .int .u64 (lim a 1 : Int), .int .u64 (lim a 2 : Int), .int .u64 (lim a 3 : Int)] 81)).alloc (.cells #[.int .u64 0, .int .u64 0, .int .u64 0, .int .u64 0] 81)).alloc (.cells #[.int .u64 0, .int .u64 0, .int .u64 0, .int .u64 0] 81)).drewN m).setCell ⟨w.heap.size + 1 + 1, 0, none⟩ (.int .u64 ((lim a 1 : Int) / 2 ^ p))).cell? ⟨w.heap.size, 2, none⟩ = some (.int .u64 (lim a 2 : Int)) := by simp [go_sem]
      have c2 : (((((w.alloc (.cells #[.int .u64 (lim a 0 : Int), .int .u64 (lim a 1 : Int), .int .u64 (lim a 2 : Int), .int .u64 (lim a 3 : Int)] 81)).alloc (.cells #[.int .u64 0, .int .u64 0, .int .u64 0, .int .u64 0] 81)).alloc (.cells #[.int .u64 0, .int .u64 0, .int .u64 0, .int .u64 0] 81)).drewN m).setCell ⟨w.heap.size + 1 + 1, 0, none⟩ (.int .u64 ((lim a 1 : Int) / 2 ^ p))).cell? ⟨w.heap.size + 1 + 1, 0, none⟩ = some (.int .u64 ((lim a 1 : Int) / 2 ^ p)) := by simp [go_sem]
      have f2 : (((((w.alloc (.cells #[.int .u64 (lim a 0 : Int), .int .u64 (lim a 1 : Int), .int .u64 (lim a 2 : Int), .int .u64 (lim a 3 : Int)] 81)).alloc (.cells #[.int .u64 0, .int .u64 0, .int .u64 0, .int .u64 0] 81)).alloc (.cells #[.int .u64 0, .int .u64 0, .int .u64 0, .int .u64 0] 81)).drewN m).setCell ⟨w.heap.size + 1 + 1, 0, none⟩ (.int .u64 ((lim a 1 : Int) / 2 ^ p))).frozen? ⟨w.heap.size + 1 + 1, 0, none⟩ = false := by simp [go_sem]
      generalize HW : (((((w.alloc (.cells #[.int .u64 (lim a 0 : Int), .int .u64 (lim a 1 : Int), .int .u64 (lim a 2 : Int), .int .u64 (lim a 3 : Int)] 81)).alloc (.cells #[.int .u64 0, .int .u64 0, .int .u64 0, .int .u64 0] 81)).alloc (.cells #[.int .u64 0, .int .u64 0, .int .u64 0, .int .u64 0] 81)).drewN m).setCell ⟨w.heap.size + 1 + 1, 0, none⟩ (.int .u64 ((lim a 1 : Int) / 2 ^ p))) = W at c1 c2 f2 ⊢
      replace HW := Lib.hid HW
      go_still_tail 14, (by kernel_rfl)
      change wpList _ _ _ _ _ W.drew
      go_wp2
      go_roundw
      case rel =>
        refine ⟨2, by omega, by omega, rfl, m + 1, ?_⟩
        rw [← HW.out, put3c2, shr_hi a 1 p 0 HP.out, ← HS.out]
        rfl
      case measure => simp [intOf]
    · simp only [bigRowL, Nat.reduceSub]
      go_wp2
      have c1 : (((((w.alloc (.cells #[.int .u64 (lim a 0 : Int), .int .u64 (lim a 1 : Int), .int .u64 (lim a 2 : Int), .int .u64 (lim a 3 : Int)] 81)).alloc (.cells #[.int .u64 0, .int .u64 0, .int .u64 0, .int .u64 0] 81)).alloc (.cells #[.int .u64 (lim s 0 : Int), .int .u64 0, .int .u64 0, .int .u64 0] 81)).drewN m).setCell ⟨w.heap.size + 1 + 1, 1, none⟩ (.int .u64 ((lim a 2 : Int) / 2 ^ p))).cell? ⟨w.heap.size, 3, none⟩ = some (.int .u64 (lim a 3 : Int)) := by simp [go_sem]
      have c2 : (((((w.alloc (.cells #[.int .u64 (lim a 0 : Int), .int .u64 (lim a 1 : Int), .int .u64 (lim a 2 : Int), .int .u64 (lim a 3 : Int)] 81)).alloc (.cells #[.int .u64 0, .int .u64 0, .int .u64 0, .int .u64 0] 81)).alloc (.cells #[.int .u64 (lim s 0 : Int), .int .u64 0, .int .u64 0, .int .u64 0] 81)).drewN m).setCell ⟨w.heap.size + 1 + 1, 1, none⟩ (.int .u64 ((lim a 2 : Int) / 2 ^ p))).cell? ⟨w.heap.size + 1 + 1, 1, none⟩ = some (.int .u64 ((lim a 2 : Int) / 2 ^ p)) := by simp [go_sem]
      have f2 : (((((w.alloc (.cells #[.int .u64 (lim a 0 : Int), .int .u64 (lim a 1 : Int), .int .u64 (lim a 2 : Int), .int .u64 (lim a 3 : Int)] 81)).alloc (.cells #[.int .u64 0, .int .u64 0, .int .u64 0, .int .u64 0] 81)).alloc (.cells #[.int .u64 (lim s 0 : Int), .int .u64 0, .int .u64 0, .int .u64 0] 81)).drewN m).setCell ⟨w.heap.size + 1 + 1, 1, none⟩ (.int .u64 ((lim a 2 : Int) / 2 ^ p))).frozen? ⟨w.heap.size + 1 + 1, 1, none⟩ = false := by simp [go_sem]
      generalize HW : (((((w.alloc (.cells #[.int .u64 (lim a 0 : Int), .int .u64 (lim a 1 : Int), .int .u64 (lim a 2 : Int), .int .u64 (lim a 3 : Int)] 81)).alloc (.cells #[.int .u64 0, .int .u64 0, .int .u64 0, .int .u64 0] 81)).alloc (.cells #[.int .u64 (lim s 0 : Int), .int .u64 0, .int .u64 0, .int .u64 0] 81)).drewN m).setCell ⟨w.heap.size + 1 + 1, 1, none⟩ (.int .u64 ((lim a 2 : Int) / 2 ^ p))) = W at c1 c2 f2 ⊢
      replace HW := Lib.hid HW
      go_still_tail 14, (by kernel_rfl)
      change wpList _ _ _ _ _ W.drew
      go_wp2
      go_roundw
      case rel =>
        refine ⟨3, by omega, by omega, rfl, m + 1, ?_⟩
        rw [← HW.out, put3c2, shr_hi a 1 p 1 HP.out, ← HS.out]
        rfl
      case measure => simp [intOf]
    · simp only [bigRowL, Nat.reduceSub]
      go_wp2
      go_roundw
      case rel =>
        refine ⟨4, by omega, by omega, rfl, m, ?_⟩
        rw [put3c, shr_last a 1 p 2 HP.out HA.out (by omega), ← HS.out]
        rfl
      case measure => simp [intOf]
    · simp only [bigRowL, Nat.reduceSub]
      go_wp2
      rw [HZ3.out]
      exact bodyPost_ret (v := .agg #[.int .u64 (lim s 0 : Int), .int .u64 (lim s 1 : Int), .int .u64 (lim s 2 : Int), .int .u64 0]) (by simp [results, Tryd.results109, go_sem]) rfl ⟨rfl, by repeat (first | exact Nx.refl _ | apply Nx.drewN | apply Nx.alloc | refine Nx.setAt ?_ _ (by omega))⟩

set_option maxHeartbeats 2000000 in
theorem right_2 (a n p s : Nat) (w : World) (ha : a < top) (hn : (n : Int) ≤ 9223372036854775807) (hq : (n : Int) / 64 = 2) (hp : (n : Int) % 64 = (p : Int)) (hs : s = a / 2 ^ n) :
    Calls Tryd.prog 109 #[.agg #[.int .u64 (lim a 0 : Int), .int .u64 (lim a 1 : Int), .int .u64 (lim a 2 : Int), .int .u64 (lim a 3 : Int)], .int .i64 (n : Int)] w fun e w' => e = .returned (.agg #[.int .u64 (lim s 0 : Int), .int .u64 (lim s 1 : Int), .int .u64 (lim s 2 : Int), .int .u64 (lim s 3 : Int)]) ∧ Nx w w' := by
  have hnq : n = 64 * 2 + p := by omega
  have HP : Hid (p < 64) := show p < 64 by omega
  have HS : Hid (s = a / 2 ^ (64 * 2 + p)) := show _ = _ by rw [hs, hnq]
  have HA := Lib.hid ha
  clear ha
  have HZ2 : Hid (lim s 2 = 0) := show _ = _ by rw [HS.out]; exact bshr_zero a 2 p 2 HA.out (by omega)
  have HZ3 : Hid (lim s 3 = 0) := show _ = _ by rw [HS.out]; exact bshr_zero a 2 p 3 HA.out (by omega)
  have hd0 : (0 : Int) ≤ 64 - (p : Int) := by omega
  have hd1 : 64 - (p : Int) ≤ 64 := by omega
  have hp1 : (p : Int) ≤ 64 := by omega
  have hw0 : IntKind.i64.wrap 0 = 0 := by decide
  have hw1 : IntKind.i64.wrap 1 = 1 := by decide
  have hw2 : IntKind.i64.wrap 2 = 2 := by decide
  have hw3 : IntKind.i64.wrap 3 = 3 := by decide
  have hwp : IntKind.i64.wrap (64 - (p : Int)) = 64 - (p : Int) := IntWalk.i64_in _ (by omega)
  clear hs hnq
  go_enter Tryd.func109, Tryd.ntmps109
  go_wp2
  rw [hp]
  go_loopw [8] (fun i wr => ∃ k : Nat, 2 ≤ k ∧ k ≤ 4 ∧ i = .int .i64 k ∧ ∃ n, wr = (((w.alloc (.cells #[.int .u64 (lim a 0 : Int), .int .u64 (lim a 1 : Int), .int .u64 (lim a 2 : Int), .int .u64 (lim a 3 : Int)] 81)).alloc (.cells #[.int .u64 0, .int .u64 0, .int .u64 0, .int .u64 0] 81)).alloc (.cells (bigRowL s (k - 2)) 81)).drewN n) (fun i _ => 4 - (intOf i).toNat)
  case atStart =>
    refine ⟨2, by omega, by omega, rfl, 0, ?_⟩
    rfl
  case round =>
    obtain ⟨k, hk0, hk, rfl, m, rfl⟩ := hrel
    have hk' : k = 2 ∨ k = 3 ∨ k = 4 := by omega
    clear hk hk0
    rcases hk' with rfl | rfl | rfl
    · simp only [bigRowL, Nat.reduceSub]
      go_wp2
      have c1 : (((((w.alloc (.cells #[.int .u64 (lim a 0 : Int), .int .u64 (lim a 1 : Int), .int .u64 (lim a 2 : Int), .int .u64 (lim a 3 : Int)] 81)).alloc (.cells #[.int .u64 0, .int .u64 0, .int .u64 0, .int .u64 0] 81)).alloc (.cells #[.int .u64 0, .int .u64 0, .int .u64 0, .int .u64 0] 81)).drewN m).setCell ⟨w.heap.size + 1 + 1, 0, none⟩ (.int .u64 ((lim a 2 : Int) / 2 ^ p))).cell? ⟨w.heap.size, 3, none⟩ = some (.int .u64 (lim a 3 : Int)) := by simp [go_sem]
      have c2 : (((((w.alloc (.cells #[.int .u64 (lim a 0 : Int), .int .u64 (lim a 1 : Int), .int .u64 (lim a 2 : Int), .int .u64 (lim a 3 : Int)] 81)).alloc (.cells #[.int .u64 0, .int .u64 0, .int .u64 0, .int .u64 0] 81)).alloc (.cells #[.int .u64 0, .int .u64 0, .int .u64 0, .int .u64 0] 81)).drewN m).setCell ⟨w.heap.size + 1 + 1, 0, none⟩ (.int .u64 ((lim a 2 : Int) / 2 ^ p))).cell? ⟨w.heap.size + 1 + 1, 0, none⟩ = some (.int .u64 ((lim a 2 : Int) / 2 ^ p)) := by simp [go_sem]
      have f2 : (((((w.alloc (.cells #[.int .u64 (lim a 0 : Int), .int .u64 (lim a 1 : Int), .int .u64 (lim a 2 : Int), .int .u64 (lim a 3 : Int)] 81)).alloc (.cells #[.int .u64 0, .int .u64 0, .int .u64 0, .int .u64 0] 81)).alloc (.cells #[.int .u64 0, .int .u64 0, .int .u64 0, .int .u64 0] 81)).drewN m).setCell ⟨w.heap.size + 1 + 1, 0, none⟩ (.int .u64 ((lim a 2 : Int) / 2 ^ p))).frozen? ⟨w.heap.size + 1 + 1, 0, none⟩ = false := by simp [go_sem]
      generalize HW : (((((w.alloc (.cells #[.int .u64 (lim a 0 : Int), .int .u64 (lim a 1 : Int), .int .u64 (lim a 2 : Int), .int .u64 (lim a 3 : Int)] 81)).alloc (.cells #[.int .u64 0, .int .u64 0, .int .u64 0, .int .u64 0] 81)).alloc (.cells #[.int .u64 0, .int .u64 0, .int .u64 0, .int .u64 0] 81)).drewN m).setCell ⟨w.heap.size + 1 + 1, 0, none⟩ (.int .u64 ((lim a 2 : Int) / 2 ^ p))) = W at c1 c2 f2 ⊢
      replace HW := Lib.hid HW
      go_still_tail 14, (by kernel_rfl)
      change wpList _ _ _ _ _ W.drew
      go_wp2
      go_roundw
      case rel =>
        refine ⟨3, by omega, by omega, rfl, m + 1, ?_⟩
        rw [← HW.out, put3c2, shr_hi a 2 p 0 HP.out, ← HS.out]
        rfl
      case measure => simp [intOf]
    · simp only [bigRowL, Nat.reduceSub]
      go_wp2
      go_roundw
      case rel =>
        refine ⟨4, by omega, by omega, rfl, m, ?_⟩
        rw [put3c, shr_last a 2 p 1 HP.out HA.out (by omega), ← HS.out]
        rfl
      case measure => simp [intOf]
    · simp only [bigRowL, Nat.reduceSub]
      go_wp2
      rw [HZ2.out, HZ3.out]
      exact bodyPost_ret (v := .agg #[.int .u64 (lim s 0 : Int), .int .u64 (lim s 1 : Int), .int .u64 0, .int .u64 0]) (by simp [results, Tryd.results109, go_sem]) rfl ⟨rfl, by repeat (first | exact Nx.refl _ | apply Nx.drewN | apply Nx.alloc | refine Nx.setAt ?_ _ (by omega))⟩

set_option maxHeartbeats 2000000 in
theorem right_3 (a n p s : Nat) (w : World) (ha : a < top) (hn : (n : Int) ≤ 9223372036854775807) (hq : (n : Int) / 64 = 3) (hp : (n : Int) % 64 = (p : Int)) (hs : s = a / 2 ^ n) :
    Calls Tryd.prog 109 #[.agg #[.int .u64 (lim a 0 : Int), .int .u64 (lim a 1 : Int), .int .u64 (lim a 2 : Int), .int .u64 (lim a 3 : Int)], .int .i64 (n : Int)] w fun e w' => e = .returned (.agg #[.int .u64 (lim s 0 : Int), .int .u64 (lim s 1 : Int), .int .u64 (lim s 2 : Int), .int .u64 (lim s 3 : Int)]) ∧ Nx w w' := by
  have hnq : n = 64 * 3 + p := by omega
  have HP : Hid (p < 64) := show p < 64 by omega
  have HS : Hid (s = a / 2 ^ (64 * 3 + p)) := show _ = _ by rw [hs, hnq]
  have HA := Lib.hid ha
  clear ha
  have HZ1 : Hid (lim s 1 = 0) := show _ = _ by rw [HS.out]; exact bshr_zero a 3 p 1 HA.out (by omega)
  have HZ2 : Hid (lim s 2 = 0) := show _ = _ by rw [HS.out]; exact bshr_zero a 3 p 2 HA.out (by omega)
  have HZ3 : Hid (lim s 3 = 0) := show _ = _ by rw [HS.out]; exact bshr_zero a 3 p 3 HA.out (by omega)
  have hd0 : (0 : Int) ≤ 64 - (p : Int) := by omega
  have hd1 : 64 - (p : Int) ≤ 64 := by omega
  have hp1 : (p : Int) ≤ 64 := by omega
  have hw0 : IntKind.i64.wrap 0 = 0 := by decide
  have hw1 : IntKind.i64.wrap 1 = 1 := by decide
  have hw2 : IntKind.i64.wrap 2 = 2 := by decide
  have hw3 : IntKind.i64.wrap 3 = 3 := by decide
  have hwp : IntKind.i64.wrap (64 - (p : Int)) = 64 - (p : Int) := IntWalk.i64_in _ (by omega)
  clear hs hnq
  go_enter Tryd.func109, Tryd.ntmps109
  go_wp2
  rw [hp]
  go_loopw [8] (fun i wr => ∃ k : Nat, 3 ≤ k ∧ k ≤ 4 ∧ i = .int .i64 k ∧ ∃ n, wr = (((w.alloc (.cells #[.int .u64 (lim a 0 : Int), .int .u64 (lim a 1 : Int), .int .u64 (lim a 2 : Int), .int .u64 (lim a 3 : Int)] 81)).alloc (.cells #[.int .u64 0, .int .u64 0, .int .u64 0, .int .u64 0] 81)).alloc (.cells (bigRowL s (k - 3)) 81)).drewN n) (fun i _ => 4 - (intOf i).toNat)
  case atStart =>
    refine ⟨3, by omega, by omega, rfl, 0, ?_⟩
    rfl
  case round =>
    obtain ⟨k, hk0, hk, rfl, m, rfl⟩ := hrel
    have hk' : k = 3 ∨ k = 4 := by omega
    clear hk hk0
    rcases hk' with rfl | rfl
    · simp only [bigRowL, Nat.reduceSub]
      go_wp2
      go_roundw
      case rel =>
        refine ⟨4, by omega, by omega, rfl, m, ?_⟩
        rw [put3c, shr_last a 3 p 0 HP.out HA.out (by omega), ← HS.out]
        rfl
      case measure => simp [intOf]
    · simp only [bigRowL, Nat.reduceSub]
      go_wp2
      rw [HZ1.out, HZ2.out, HZ3.out]
      exact bodyPost_ret (v := .agg #[.int .u64 (lim s 0 : Int), .int .u64 0, .int .u64 0, .int .u64 0]) (by simp [results, Tryd.results109, go_sem]) rfl ⟨rfl, by repeat (first | exact Nx.refl _ | apply Nx.drewN | apply Nx.alloc | refine Nx.setAt ?_ _ (by omega))⟩
end Go.Proofs.YtjbeemoobmagnaaDoor
end

section
namespace Go.Proofs.YtjbeemoobmagnaaDoor
open Go.RowKit
set_option linter.unusedVariables false
set_option linter.unusedSimpArgs false
set_option maxHeartbeats 1000000 in
theorem right_far (a n : Nat) (w : World) (hn : (n : Int) ≤ 9223372036854775807) (h : ¬ (n : Int) / 64 < 4) :
    Calls Tryd.prog 109 #[.agg #[.int .u64 (lim a 0 : Int), .int .u64 (lim a 1 : Int), .int .u64 (lim a 2 : Int), .int .u64 (lim a 3 : Int)], .int .i64 (n : Int)] w fun e w' => e = .returned (.agg #[.int .u64 0, .int .u64 0, .int .u64 0, .int .u64 0]) ∧ Nx w w' := by
  go_enter Tryd.func109, Tryd.ntmps109
  go_wp2
  go_loopw [8] (fun i wr => i = .int .i64 ((n : Int) / 64) ∧ wr = ((w.alloc (.cells #[.int .u64 (lim a 0 : Int), .int .u64 (lim a 1 : Int), .int .u64 (lim a 2 : Int), .int .u64 (lim a 3 : Int)] 81)).alloc (.cells #[.int .u64 0, .int .u64 0, .int .u64 0, .int .u64 0] 81)).alloc (.cells #[.int .u64 0, .int .u64 0, .int .u64 0, .int .u64 0] 81)) (fun i _ => 0)
  case atStart => exact ⟨rfl, rfl⟩
  case round =>
    obtain ⟨rfl, rfl⟩ := hrel
    go_wp2
    exact bodyPost_ret (v := .agg #[.int .u64 0, .int .u64 0, .int .u64 0, .int .u64 0]) (by simp [results, Tryd.results109, go_sem]) rfl ⟨rfl, by repeat (first | exact Nx.refl _ | apply Nx.drewN | apply Nx.alloc | refine Nx.setAt ?_ _ (by omega))⟩
set_option maxHeartbeats 1000000 in
theorem right_neg (a : Nat) (n : Int) (w : World) (hn : n < 0) :
    Calls Tryd.prog 109 #[.agg #[.int .u64 (lim a 0 : Int), .int .u64 (lim a 1 : Int), .int .u64 (lim a 2 : Int), .int .u64 (lim a 3 : Int)], .int .i64 n] w fun e w' => e = .returned (.agg #[.int .u64 (lim a 0 : Int), .int .u64 (lim a 1 : Int), .int .u64 (lim a 2 : Int), .int .u64 (lim a 3 : Int)]) ∧ Nx w w' := by
  go_enter Tryd.func109, Tryd.ntmps109
  go_wp2
  exact bodyPost_ret (v := .agg #[.int .u64 (lim a 0 : Int), .int .u64 (lim a 1 : Int), .int .u64 (lim a 2 : Int), .int .u64 (lim a 3 : Int)]) (by simp [results, Tryd.results109, go_sem]) rfl ⟨rfl, by repeat (first | exact Nx.refl _ | apply Nx.drewN | apply Nx.alloc | refine Nx.setAt ?_ _ (by omega))⟩

def rightN (a : Nat) (n : Int) : Nat := if n < 0 then a else a / 2 ^ n.toNat
theorem right_any (a : Nat) (n : Int) (w : World) (ha : a < top) (hn : n ≤ 9223372036854775807) :
    Calls Tryd.prog 109 #[.agg #[.int .u64 (lim a 0 : Int), .int .u64 (lim a 1 : Int), .int .u64 (lim a 2 : Int), .int .u64 (lim a 3 : Int)], .int .i64 n] w fun e w' => e = .returned (.agg #[.int .u64 (lim (rightN a n) 0 : Int), .int .u64 (lim (rightN a n) 1 : Int), .int .u64 (lim (rightN a n) 2 : Int), .int .u64 (lim (rightN a n) 3 : Int)]) ∧ Nx w w' := by
  unfold rightN
  by_cases h0 : n < 0
  · rw [if_pos h0]
    exact right_neg a n w h0
  · rw [if_neg h0]
    obtain ⟨m, rfl⟩ := Int.eq_ofNat_of_zero_le (show 0 ≤ n by omega)
    simp only [Int.toNat_natCast]
    by_cases h4 : (m : Int) / 64 < 4
    · obtain ⟨p, hp⟩ : ∃ p : Nat, (m : Int) % 64 = (p : Int) := ⟨m % 64, by omega⟩
      have hq : (m : Int) / 64 = 0 ∨ (m : Int) / 64 = 1 ∨ (m : Int) / 64 = 2 ∨ (m : Int) / 64 = 3 := by omega
      rcases hq with hq | hq | hq | hq
      · exact right_0 a m p _ w ha hn hq hp rfl
      · exact right_1 a m p _ w ha hn hq hp rfl
      · exact right_2 a m p _ w ha hn hq hp rfl
      · exact right_3 a m p _ w ha hn hq hp rfl
    · rw [bshr_zero' a m 0 ha (by omega), bshr_zero' a m 1 ha (by omega), bshr_zero' a m 2 ha (by omega), bshr_zero' a m 3 ha (by omega)]
      exact right_far a m w hn h4
end Go.Proofs.YtjbeemoobmagnaaDoor
end
