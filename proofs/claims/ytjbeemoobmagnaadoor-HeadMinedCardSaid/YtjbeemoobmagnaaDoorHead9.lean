/- LAYER 8: the numbers that Mine goes through. -/
import Derived.RangeFuncNested
import Derived.RangeFuncBound
import Derived.RangeFuncCalls
import Derived.RangeFuncLeaves
import Derived.RangeFuncFrom
import Derived.Shelf.Abstract
import Derived.Shelf.RegionOpen
import Derived.WalkKit
import Derived.OwnWalkIn
import Derived.TacticsInMore
import Derived.LoopNIn
import Derived.LoopIn
import Derived.Test.YtjbeemoobmagnaaDoorHead7
namespace Go.Proofs.YtjbeemoobmagnaaDoor
open Go Go.RowKit Go.Shelf
set_option linter.unusedVariables false
set_option linter.unusedSimpArgs false
set_option linter.unusedVariables false
set_option linter.unusedSimpArgs false
attribute [local go_sem] Oper.semAt_some

/-- A number of 32 bits. -/
abbrev N32 := { x : Nat // x < 4294967296 }
/-- The number j behind the first; behind the greatest stands 0. -/
def nth32 (first j : Nat) : N32 := ⟨(first + j) % 4294967296, Nat.mod_lt _ (by decide)⟩
def upto32 (first k : Nat) : List N32 := (List.range k).map (nth32 first)
theorem upto32_succ (first k : Nat) : upto32 first (k + 1) = upto32 first k ++ [nth32 first k] := by simp [upto32, List.range_succ]
theorem upto32_length (first k : Nat) : (upto32 first k).length = k := by simp [upto32]
/-- Two cells stay. -/
def KpB (a b : Nat) (W W' : World) : Prop := W'.cell? ⟨a, 0, none⟩ = W.cell? ⟨a, 0, none⟩ ∧ W'.cell? ⟨b, 0, none⟩ = W.cell? ⟨b, 0, none⟩
theorem KpB.trans {a b : Nat} {A B C : World} (h : KpB a b A B) (x : KpB a b B C) : KpB a b A C := ⟨x.1.trans h.1, x.2.trans h.2⟩

set_option maxRecDepth 100000 in
set_option maxHeartbeats 2000000 in
theorem nonces1_in (F : Fence) (n : Nat) (hf : F.fn 93) (hro : F.round = none) (hn : 1 ≤ n) (l Bm Bf first m : Nat) (hfi : first < 4294967296) (hm : m < 4294967296) (J Jx : List N32 → World → Prop)
    (hY : ∀ pre x W, J pre W → pre.length < m → YieldAt F (n - 1) Tryd.prog l #[.int .u32 (x.1 : Int)] W fun e W' =>
      (e = .returned (.bool true) ∧ J (pre ++ [x]) W' ∧ KpB Bm Bf W W') ∨ (e = .returned (.bool false) ∧ Jx (pre ++ [x]) W'))
    (W : World) (cm : W.cell? ⟨Bm, 0, none⟩ = some (.int .u32 (m : Int))) (cf : W.cell? ⟨Bf, 0, none⟩ = some (.int .u32 (first : Int))) (h0 : J [] W) :
    CallsIn F n Tryd.prog 93 #[.func (.yield l) #[] #[], .pointer (some ⟨Bm, 0, none⟩), .pointer (some ⟨Bf, 0, none⟩)] W fun e W' => (∃ v, e = .returned v) ∧
      ((∃ ys, ys = upto32 first m ∧ J ys W') ∨ (∃ pre, (∃ k, k < m ∧ pre = upto32 first (k + 1)) ∧ Jx pre W')) := by
  refine callsIn_of_wp Tryd.func93 rfl hf ?_ hro
  simp only [Tryd.ntmps93, List.size_toArray, List.length_cons, List.length_nil, Nat.reduceAdd, Nat.reduceSub, Array.replicate_succ, Array.replicate_zero, List.push_toArray, List.append_toArray, List.nil_append, List.cons_append]
  gi_wp2
  gi_loopw [6] (fun i wr => ∃ k : Nat, k ≤ m ∧ i = .int .u32 (k : Int) ∧ J (upto32 first k) wr ∧ KpB Bm Bf W wr)
    (fun i _ => m - (intOf i).toNat)
  case atStart => exact ⟨0, Nat.zero_le _, rfl, h0, rfl, rfl⟩
  case round =>
    obtain ⟨k, hk, rfl, hJs, hnx⟩ := hrel
    have cf' : wr.cell? ⟨Bf, 0, none⟩ = some (.int .u32 (first : Int)) := hnx.2.trans cf
    by_cases hlt : k < m
    · obtain ⟨fn, tmps, assign, body, hy, hR⟩ := hY _ (nth32 first k) wr hJs (by rw [upto32_length]; exact hlt)
      have hlti : (k : Int) < (m : Int) := by omega
      have hwr : IntKind.u32.wrap ((first : Int) + (k : Int)) = ((nth32 first k).1 : Int) := by
        rw [IntKind.wrap_u32]; show _ = (((first + k) % 4294967296 : Nat) : Int); omega
      have hw1 : IntKind.u32.wrap ((k : Int) + 1) = (k : Int) + 1 := by rw [IntKind.wrap_u32]; omega
      generalize hx : nth32 first k = x at *
      obtain ⟨x, hx2⟩ := x
      dsimp only at hwr hy
      gi_wp2
      refine hR.mono ?_
      rintro e W3 (⟨rfl, hJ3, hk3⟩ | ⟨rfl, hJx3⟩)
      · gi_wp2
        go_roundw
        case rel => exact ⟨k + 1, by omega, by simp, by rw [upto32_succ, hx]; exact hJ3, hnx.trans hk3⟩
        case measure => simp [intOf]; omega
      · gi_wp2
        refine bodyPost_ret (results_none rfl _ _ _) rfl ?_
        exact ⟨⟨_, rfl⟩, .inr ⟨_, ⟨k, hlt, by rw [upto32_succ, hx]⟩, hJx3⟩⟩
    · obtain rfl : k = m := by omega
      gi_wp2
      go_end0
      exact ⟨⟨_, rfl⟩, .inl ⟨_, rfl, hJs⟩⟩
/-- The maker lays two boxes. -/
theorem nonces_in (F : Fence) (n : Nat) (hf : F.fn 62) (hro : F.round = none) (first m : Int) (w : World) :
    CallsIn F n Tryd.prog 62 #[.int .u32 first, .int .u32 m] w fun e w' => e = .returned (.func (.func 93) #[] #[.pointer (some ⟨w.heap.size + 1, 0, none⟩), .pointer (some ⟨w.heap.size, 0, none⟩)]) ∧ w' = (w.alloc (.cells #[.int .u32 first] 22)).alloc (.cells #[.int .u32 m] 22) := by
  refine callsIn_of_wp Tryd.func62 rfl hf ?_ hro
  simp only [Tryd.ntmps62, List.size_toArray, List.length_cons, List.length_nil, Nat.reduceAdd, Nat.reduceSub, Array.replicate_succ, Array.replicate_zero, List.push_toArray, List.append_toArray, List.nil_append, List.cons_append]
  gi_wp2
  go_ret
  exact ⟨rfl, rfl⟩
theorem nonces_stops (F : Fence) (n : Nat) (hf : F.fn 93) (hro : F.round = none) (hn : 1 ≤ n) (Bm Bf first m : Nat) (hfi : first < 4294967296) (hm : m < 4294967296) (w : World) (hbm : Bm < w.heap.size) (hbf : Bf < w.heap.size)
    (cm : w.cell? ⟨Bm, 0, none⟩ = some (.int .u32 (m : Int))) (cf : w.cell? ⟨Bf, 0, none⟩ = some (.int .u32 (first : Int))) :
    SeqStopsK F n Tryd.prog 93 #[.pointer (some ⟨Bm, 0, none⟩), .pointer (some ⟨Bf, 0, none⟩)] (fun x : N32 => #[Value.int .u32 (x.1 : Int)]) (KpB Bm Bf) (fun ys => ys = upto32 first m) (fun pre => ∃ k, k < m ∧ pre = upto32 first (k + 1)) m w := fun l J Jx W hW _ _ hY h0 =>
  nonces1_in F n hf hro hn l Bm Bf first m hfi hm J Jx hY W ((hW.cell (p := ⟨Bm, 0, none⟩) hbm).trans cm) ((hW.cell (p := ⟨Bf, 0, none⟩) hbf).trans cf) h0
end Go.Proofs.YtjbeemoobmagnaaDoor
