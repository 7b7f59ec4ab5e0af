/- CONTRACTS OF LAYER 4: Work. -/
import Derived.Test.YtggemncdnclhnaaTar3
import Derived.Test.YtggemncdnclhnaaRefOver
import Derived.Test.YtggemncdnclhnaaRegLaws
namespace Go.Proofs.Ytggemncdnclhnaa
open Go.RowKit
set_option linter.unusedVariables false
set_option linter.unusedSimpArgs false

/-- The work of a target. -/
def workN (t : Nat) : Nat := addN (overQ (subN 0 (addN t 1)) (addN t 1)) 1
def wkN (b : Nat) : Nat := if ofE b = 0 then workN (ofT b) else 0
theorem sub_0 (d : Nat) (w : World) (hd : d < top) : Calls Try.prog 28 #[.agg #[.int .u64 0, .int .u64 0, .int .u64 0, .int .u64 0], .agg #[.int .u64 (lim d 0 : Int), .int .u64 (lim d 1 : Int), .int .u64 (lim d 2 : Int), .int .u64 (lim d 3 : Int)]] w fun e w' => e = .returned (.tuple #[.agg #[.int .u64 (lim (subN 0 d) 0 : Int), .int .u64 (lim (subN 0 d) 1 : Int), .int .u64 (lim (subN 0 d) 2 : Int), .int .u64 (lim (subN 0 d) 3 : Int)], .bool (subB 0 d)]) ∧ Nx w w' := by
  have h := sub_any 0 d w (by decide) hd
  obtain ⟨z0, z1, z2, z3⟩ := lim_nought
  rw [z0, z1, z2, z3] at h
  exact h
def Work4 (b t d : Nat) (v1 : Bool) (gT gZ : Nat) (w W : World) (_u : Value) (L : Nat → Bool) (ac : Act) (wr : World) : Prop :=
  ∃ x0 x1 x2 x3 x4 x5 x6 x8 : Value, ac = ⟨#[Value.int IntKind.u32 ↑b, undef, Value.pointer (some { block := gZ, off := 0 }), Value.int IntKind.i64 0, Value.pointer (some { block := gT, off := 0 }), Value.int IntKind.i64 0, x6, x8, undef, undef, undef, undef, undef, undef, undef, Value.tuple #[Value.agg #[Value.int IntKind.u64 ↑(lim t 0), Value.int IntKind.u64 ↑(lim t 1), Value.int IntKind.u64 ↑(lim t 2), Value.int IntKind.u64 ↑(lim t 3)], Value.int IntKind.i64 0], Value.int IntKind.u32 ↑b, Value.tuple #[Value.agg #[Value.int IntKind.u64 ↑(lim t 0), Value.int IntKind.u64 ↑(lim t 1), Value.int IntKind.u64 ↑(lim t 2), Value.int IntKind.u64 ↑(lim t 3)], Value.int IntKind.i64 0], Value.agg #[Value.int IntKind.u64 ↑(lim t 0), Value.int IntKind.u64 ↑(lim t 1), Value.int IntKind.u64 ↑(lim t 2), Value.int IntKind.u64 ↑(lim t 3)], Value.int IntKind.i64 0, Value.int IntKind.i64 0, Value.bool false, undef, undef, x3, x0, x1, x2, x4, x5, undef, undef, undef, undef, undef, undef, undef, undef, undef, undef, undef, undef, undef, undef, undef, undef, undef, undef, undef, undef], []⟩ ∧ Nx w wr ∧ W.heap.size ≤ wr.heap.size ∧ Row wr gT #[.int .u64 (lim t 0 : Int), .int .u64 (lim t 1 : Int), .int .u64 (lim t 2 : Int), .int .u64 (lim t 3 : Int)] 24 ∧ Row wr gZ #[.int .u64 0, .int .u64 0, .int .u64 0, .int .u64 0] 24 ∧ (L 0 = true → x0 = .agg #[.int .u64 (lim t 0 : Int), .int .u64 (lim t 1 : Int), .int .u64 (lim t 2 : Int), .int .u64 (lim t 3 : Int)]) ∧ (L 1 = true → x1 = .agg #[.int .u64 (lim 1 0 : Int), .int .u64 (lim 1 1 : Int), .int .u64 (lim 1 2 : Int), .int .u64 (lim 1 3 : Int)]) ∧ (L 2 = true → x2 = .tuple #[.agg #[.int .u64 (lim d 0 : Int), .int .u64 (lim d 1 : Int), .int .u64 (lim d 2 : Int), .int .u64 (lim d 3 : Int)], .bool v1]) ∧ (L 3 = true → x3 = .tuple #[.agg #[.int .u64 (lim d 0 : Int), .int .u64 (lim d 1 : Int), .int .u64 (lim d 2 : Int), .int .u64 (lim d 3 : Int)], .bool v1]) ∧ (L 4 = true → x4 = .agg #[.int .u64 (lim d 0 : Int), .int .u64 (lim d 1 : Int), .int .u64 (lim d 2 : Int), .int .u64 (lim d 3 : Int)]) ∧ (L 5 = true → x5 = .bool v1) ∧ (L 6 = true → ∃ g, x6 = .pointer (some ⟨g, 0, none⟩) ∧ W.heap.size ≤ g ∧ Row wr g (if L 7 = true then #[.int .u64 (lim d 0 : Int), .int .u64 (lim d 1 : Int), .int .u64 (lim d 2 : Int), .int .u64 (lim d 3 : Int)] else #[.int .u64 0, .int .u64 0, .int .u64 0, .int .u64 0]) 24) ∧ (L 8 = true → x8 = .bool v1) ∧ (L 7 = true → L 6 = true)
def Work5 (b t d l : Nat) (v1 v2 : Bool) (gT gZ gD : Nat) (w W : World) (_u : Value) (L : Nat → Bool) (ac : Act) (wr : World) : Prop :=
  ∃ x0 x1 x2 x3 x4 x5 x6 x8 : Value, ac = ⟨#[Value.int IntKind.u32 ↑b, undef, Value.pointer (some { block := gZ, off := 0 }), Value.int IntKind.i64 0, Value.pointer (some { block := gT, off := 0 }), Value.int IntKind.i64 0, Value.pointer (some { block := gD, off := 0 }), Value.bool v1, x6, x8, undef, undef, undef, undef, undef, Value.tuple #[Value.agg #[Value.int IntKind.u64 ↑(lim t 0), Value.int IntKind.u64 ↑(lim t 1), Value.int IntKind.u64 ↑(lim t 2), Value.int IntKind.u64 ↑(lim t 3)], Value.int IntKind.i64 0], Value.int IntKind.u32 ↑b, Value.tuple #[Value.agg #[Value.int IntKind.u64 ↑(lim t 0), Value.int IntKind.u64 ↑(lim t 1), Value.int IntKind.u64 ↑(lim t 2), Value.int IntKind.u64 ↑(lim t 3)], Value.int IntKind.i64 0], Value.agg #[Value.int IntKind.u64 ↑(lim t 0), Value.int IntKind.u64 ↑(lim t 1), Value.int IntKind.u64 ↑(lim t 2), Value.int IntKind.u64 ↑(lim t 3)], Value.int IntKind.i64 0, Value.int IntKind.i64 0, Value.bool false, undef, undef, Value.tuple #[Value.agg #[Value.int IntKind.u64 ↑(lim d 0), Value.int IntKind.u64 ↑(lim d 1), Value.int IntKind.u64 ↑(lim d 2), Value.int IntKind.u64 ↑(lim d 3)], Value.bool v1], Value.agg #[Value.int IntKind.u64 ↑(lim t 0), Value.int IntKind.u64 ↑(lim t 1), Value.int IntKind.u64 ↑(lim t 2), Value.int IntKind.u64 ↑(lim t 3)], Value.agg #[Value.int IntKind.u64 ↑(lim 1 0), Value.int IntKind.u64 ↑(lim 1 1), Value.int IntKind.u64 ↑(lim 1 2), Value.int IntKind.u64 ↑(lim 1 3)], Value.tuple #[Value.agg #[Value.int IntKind.u64 ↑(lim d 0), Value.int IntKind.u64 ↑(lim d 1), Value.int IntKind.u64 ↑(lim d 2), Value.int IntKind.u64 ↑(lim d 3)], Value.bool v1], Value.agg #[Value.int IntKind.u64 ↑(lim d 0), Value.int IntKind.u64 ↑(lim d 1), Value.int IntKind.u64 ↑(lim d 2), Value.int IntKind.u64 ↑(lim d 3)], Value.bool v1, x3, x0, x1, x2, x4, x5, undef, undef, undef, undef, undef, undef, undef, undef, undef, undef, undef, undef, undef, undef], []⟩ ∧ Nx w wr ∧ W.heap.size ≤ wr.heap.size ∧ Row wr gD #[.int .u64 (lim d 0 : Int), .int .u64 (lim d 1 : Int), .int .u64 (lim d 2 : Int), .int .u64 (lim d 3 : Int)] 24 ∧ Row wr gZ #[.int .u64 0, .int .u64 0, .int .u64 0, .int .u64 0] 24 ∧ (L 0 = true → x0 = .agg #[.int .u64 0, .int .u64 0, .int .u64 0, .int .u64 0]) ∧ (L 1 = true → x1 = .agg #[.int .u64 (lim d 0 : Int), .int .u64 (lim d 1 : Int), .int .u64 (lim d 2 : Int), .int .u64 (lim d 3 : Int)]) ∧ (L 2 = true → x2 = .tuple #[.agg #[.int .u64 (lim l 0 : Int), .int .u64 (lim l 1 : Int), .int .u64 (lim l 2 : Int), .int .u64 (lim l 3 : Int)], .bool v2]) ∧ (L 3 = true → x3 = .tuple #[.agg #[.int .u64 (lim l 0 : Int), .int .u64 (lim l 1 : Int), .int .u64 (lim l 2 : Int), .int .u64 (lim l 3 : Int)], .bool v2]) ∧ (L 4 = true → x4 = .agg #[.int .u64 (lim l 0 : Int), .int .u64 (lim l 1 : Int), .int .u64 (lim l 2 : Int), .int .u64 (lim l 3 : Int)]) ∧ (L 5 = true → x5 = .bool v2) ∧ (L 6 = true → ∃ g, x6 = .pointer (some ⟨g, 0, none⟩) ∧ W.heap.size ≤ g ∧ Row wr g (if L 7 = true then #[.int .u64 (lim l 0 : Int), .int .u64 (lim l 1 : Int), .int .u64 (lim l 2 : Int), .int .u64 (lim l 3 : Int)] else #[.int .u64 0, .int .u64 0, .int .u64 0, .int .u64 0]) 24) ∧ (L 8 = true → x8 = .bool v2) ∧ (L 7 = true → L 6 = true)
def Work7 (b t d l q r u : Nat) (v1 v2 v3 : Bool) (er : Int) (gT gZ gD gL g10 g11 : Nat) (w W : World) (_u : Value) (L : Nat → Bool) (ac : Act) (wr : World) : Prop :=
  ∃ x0 x1 x2 x3 x4 x5 x6 x8 : Value, ac = ⟨#[Value.int IntKind.u32 ↑b, undef, Value.pointer (some { block := gZ, off := 0 }), Value.int IntKind.i64 0, Value.pointer (some { block := gT, off := 0 }), Value.int IntKind.i64 0, Value.pointer (some { block := gD, off := 0 }), Value.bool v1, Value.pointer (some { block := gL, off := 0 }), Value.bool v2, Value.pointer (some { block := g10, off := 0 }), Value.pointer (some { block := g11, off := 0 }), Value.int IntKind.i64 er, x6, x8, Value.tuple #[Value.agg #[Value.int IntKind.u64 ↑(lim t 0), Value.int IntKind.u64 ↑(lim t 1), Value.int IntKind.u64 ↑(lim t 2), Value.int IntKind.u64 ↑(lim t 3)], Value.int IntKind.i64 0], Value.int IntKind.u32 ↑b, Value.tuple #[Value.agg #[Value.int IntKind.u64 ↑(lim t 0), Value.int IntKind.u64 ↑(lim t 1), Value.int IntKind.u64 ↑(lim t 2), Value.int IntKind.u64 ↑(lim t 3)], Value.int IntKind.i64 0], Value.agg #[Value.int IntKind.u64 ↑(lim t 0), Value.int IntKind.u64 ↑(lim t 1), Value.int IntKind.u64 ↑(lim t 2), Value.int IntKind.u64 ↑(lim t 3)], Value.int IntKind.i64 0, Value.int IntKind.i64 0, Value.bool false, undef, undef, Value.tuple #[Value.agg #[Value.int IntKind.u64 ↑(lim d 0), Value.int IntKind.u64 ↑(lim d 1), Value.int IntKind.u64 ↑(lim d 2), Value.int IntKind.u64 ↑(lim d 3)], Value.bool v1], Value.agg #[Value.int IntKind.u64 ↑(lim t 0), Value.int IntKind.u64 ↑(lim t 1), Value.int IntKind.u64 ↑(lim t 2), Value.int IntKind.u64 ↑(lim t 3)], Value.agg #[Value.int IntKind.u64 ↑(lim 1 0), Value.int IntKind.u64 ↑(lim 1 1), Value.int IntKind.u64 ↑(lim 1 2), Value.int IntKind.u64 ↑(lim 1 3)], Value.tuple #[Value.agg #[Value.int IntKind.u64 ↑(lim d 0), Value.int IntKind.u64 ↑(lim d 1), Value.int IntKind.u64 ↑(lim d 2), Value.int IntKind.u64 ↑(lim d 3)], Value.bool v1], Value.agg #[Value.int IntKind.u64 ↑(lim d 0), Value.int IntKind.u64 ↑(lim d 1), Value.int IntKind.u64 ↑(lim d 2), Value.int IntKind.u64 ↑(lim d 3)], Value.bool v1, Value.tuple #[Value.agg #[Value.int IntKind.u64 ↑(lim l 0), Value.int IntKind.u64 ↑(lim l 1), Value.int IntKind.u64 ↑(lim l 2), Value.int IntKind.u64 ↑(lim l 3)], Value.bool v2], Value.agg #[Value.int IntKind.u64 0, Value.int IntKind.u64 0, Value.int IntKind.u64 0, Value.int IntKind.u64 0], Value.agg #[Value.int IntKind.u64 ↑(lim d 0), Value.int IntKind.u64 ↑(lim d 1), Value.int IntKind.u64 ↑(lim d 2), Value.int IntKind.u64 ↑(lim d 3)], Value.tuple #[Value.agg #[Value.int IntKind.u64 ↑(lim l 0), Value.int IntKind.u64 ↑(lim l 1), Value.int IntKind.u64 ↑(lim l 2), Value.int IntKind.u64 ↑(lim l 3)], Value.bool v2], Value.agg #[Value.int IntKind.u64 ↑(lim l 0), Value.int IntKind.u64 ↑(lim l 1), Value.int IntKind.u64 ↑(lim l 2), Value.int IntKind.u64 ↑(lim l 3)], Value.bool v2, Value.tuple #[Value.agg #[Value.int IntKind.u64 ↑(lim q 0), Value.int IntKind.u64 ↑(lim q 1), Value.int IntKind.u64 ↑(lim q 2), Value.int IntKind.u64 ↑(lim q 3)], Value.agg #[Value.int IntKind.u64 ↑(lim r 0), Value.int IntKind.u64 ↑(lim r 1), Value.int IntKind.u64 ↑(lim r 2), Value.int IntKind.u64 ↑(lim r 3)], Value.int IntKind.i64 er], Value.agg #[Value.int IntKind.u64 ↑(lim l 0), Value.int IntKind.u64 ↑(lim l 1), Value.int IntKind.u64 ↑(lim l 2), Value.int IntKind.u64 ↑(lim l 3)], Value.agg #[Value.int IntKind.u64 ↑(lim d 0), Value.int IntKind.u64 ↑(lim d 1), Value.int IntKind.u64 ↑(lim d 2), Value.int IntKind.u64 ↑(lim d 3)], Value.tuple #[Value.agg #[Value.int IntKind.u64 ↑(lim q 0), Value.int IntKind.u64 ↑(lim q 1), Value.int IntKind.u64 ↑(lim q 2), Value.int IntKind.u64 ↑(lim q 3)], Value.agg #[Value.int IntKind.u64 ↑(lim r 0), Value.int IntKind.u64 ↑(lim r 1), Value.int IntKind.u64 ↑(lim r 2), Value.int IntKind.u64 ↑(lim r 3)], Value.int IntKind.i64 er], Value.agg #[Value.int IntKind.u64 ↑(lim q 0), Value.int IntKind.u64 ↑(lim q 1), Value.int IntKind.u64 ↑(lim q 2), Value.int IntKind.u64 ↑(lim q 3)], Value.agg #[Value.int IntKind.u64 ↑(lim r 0), Value.int IntKind.u64 ↑(lim r 1), Value.int IntKind.u64 ↑(lim r 2), Value.int IntKind.u64 ↑(lim r 3)], Value.int IntKind.i64 er, x3, x0, x1, x2, x4, x5, undef], []⟩ ∧ Nx w wr ∧ W.heap.size ≤ wr.heap.size ∧ Row wr g10 #[.int .u64 (lim q 0 : Int), .int .u64 (lim q 1 : Int), .int .u64 (lim q 2 : Int), .int .u64 (lim q 3 : Int)] 24 ∧ Row wr gZ #[.int .u64 0, .int .u64 0, .int .u64 0, .int .u64 0] 24 ∧ (L 0 = true → x0 = .agg #[.int .u64 (lim q 0 : Int), .int .u64 (lim q 1 : Int), .int .u64 (lim q 2 : Int), .int .u64 (lim q 3 : Int)]) ∧ (L 1 = true → x1 = .agg #[.int .u64 (lim 1 0 : Int), .int .u64 (lim 1 1 : Int), .int .u64 (lim 1 2 : Int), .int .u64 (lim 1 3 : Int)]) ∧ (L 2 = true → x2 = .tuple #[.agg #[.int .u64 (lim u 0 : Int), .int .u64 (lim u 1 : Int), .int .u64 (lim u 2 : Int), .int .u64 (lim u 3 : Int)], .bool v3]) ∧ (L 3 = true → x3 = .tuple #[.agg #[.int .u64 (lim u 0 : Int), .int .u64 (lim u 1 : Int), .int .u64 (lim u 2 : Int), .int .u64 (lim u 3 : Int)], .bool v3]) ∧ (L 4 = true → x4 = .agg #[.int .u64 (lim u 0 : Int), .int .u64 (lim u 1 : Int), .int .u64 (lim u 2 : Int), .int .u64 (lim u 3 : Int)]) ∧ (L 5 = true → x5 = .bool v3) ∧ (L 6 = true → ∃ g, x6 = .pointer (some ⟨g, 0, none⟩) ∧ W.heap.size ≤ g ∧ Row wr g (if L 7 = true then #[.int .u64 (lim u 0 : Int), .int .u64 (lim u 1 : Int), .int .u64 (lim u 2 : Int), .int .u64 (lim u 3 : Int)] else #[.int .u64 0, .int .u64 0, .int .u64 0, .int .u64 0]) 24) ∧ (L 8 = true → x8 = .bool v3) ∧ (L 7 = true → L 6 = true)

set_option maxHeartbeats 2000000 in
set_option maxRecDepth 100000 in
theorem twork_no (b : Nat) (w : World) (hb : (b : Int) ≤ 4294967295) (h : ofE b = 5) :
    Calls Try.prog 42 #[.int .u32 (b : Int)] w fun e w' => e = .returned (.tuple #[.agg #[.int .u64 0, .int .u64 0, .int .u64 0, .int .u64 0], .int .i64 5]) ∧ Nx w w' := by
  have HO := Lib.hid (fun w => tof_any b w hb)
  rw [h] at HO
  clear h
  generalize ofT b = t at *
  go_enter Try.func42, Try.ntmps42
  go_wp2_with fail
  refine (HO.out _).mono ?_
  rintro e w1 ⟨rfl, hb1⟩
  have RZ := ((Row.new w #[.int .u64 0, .int .u64 0, .int .u64 0, .int .u64 0] 24 _ rfl).nx hb1).alloc (.cells #[.int .u64 (lim t 0 : Int), .int .u64 (lim t 1 : Int), .int .u64 (lim t 2 : Int), .int .u64 (lim t 3 : Int)] 24)
  have N1 := Lib.hid ((((Nx.refl w).alloc (.cells #[.int .u64 0, .int .u64 0, .int .u64 0, .int .u64 0] 24)).trans hb1).alloc (.cells #[.int .u64 (lim t 0 : Int), .int .u64 (lim t 1 : Int), .int .u64 (lim t 2 : Int), .int .u64 (lim t 3 : Int)] 24))
  clear hb1
  obtain ⟨z0, z1, z2, z3⟩ := RZ.zero4
  have fz := RZ.frozen
  go_wp2
  exact bodyPost_ret (v := .tuple #[.agg #[.int .u64 0, .int .u64 0, .int .u64 0, .int .u64 0], .int .i64 5]) (by simp [results, Try.results42, go_sem, z0, z1, z2, z3, fz]) rfl
    ⟨rfl, by repeat (first | with_reducible exact N1.out | with_reducible refine Nx.setAt ?_ _ (by omega))⟩

set_option maxHeartbeats 8000000 in
set_option maxRecDepth 100000 in
theorem twork_yes (b : Nat) (w : World) (hb : (b : Int) ≤ 4294967295) (h : ofE b = 0) :
    Calls Try.prog 42 #[.int .u32 (b : Int)] w fun e w' => e = .returned (.tuple #[.agg #[.int .u64 (lim (workN (ofT b)) 0 : Int), .int .u64 (lim (workN (ofT b)) 1 : Int), .int .u64 (lim (workN (ofT b)) 2 : Int), .int .u64 (lim (workN (ofT b)) 3 : Int)], .int .i64 0]) ∧ Nx w w' := by
  have HO := Lib.hid (fun w => tof_any b w hb)
  rw [h] at HO
  clear h
  have ht := ofT_lt b
  generalize ofT b = t at *
  have hd := addN_lt t 1
  have hl := subN_lt (show 0 < top by decide) hd
  have hq : overQ (subN 0 (addN t 1)) (addN t 1) < top := by
    unfold overQ
    split
    · decide
    · exact Nat.lt_of_le_of_lt (Nat.div_le_self _ _) hl
  have HADD := Lib.hid (fun w => add_any t 1 w ht (by decide))
  have HSUB := Lib.hid (fun w => sub_0 (addN t 1) w hd)
  have HOV := Lib.hid (fun w => over_any (subN 0 (addN t 1)) (addN t 1) w hl hd)
  have HADD2 := Lib.hid (fun w => add_any (overQ (subN 0 (addN t 1)) (addN t 1)) 1 w hq (by decide))
  have HW : Hid (addN (overQ (subN 0 (addN t 1)) (addN t 1)) 1 = workN t) := Lib.hid rfl
  rw [HW.out] at HADD2
  clear hd hl hq ht HW
  generalize addB (overQ (subN 0 (addN t 1)) (addN t 1)) 1 = v3 at *
  generalize workN t = u at *
  generalize overQ (subN 0 (addN t 1)) (addN t 1) = q at *
  generalize overR (subN 0 (addN t 1)) (addN t 1) = r at *
  generalize overE (addN t 1) = er at *
  generalize subB 0 (addN t 1) = v2 at *
  generalize subN 0 (addN t 1) = l at *
  generalize addB t 1 = v1 at *
  generalize addN t 1 = d at *
  go_enter Try.func42, Try.ntmps42
  go_wp2_with fail
  refine (HO.out _).mono ?_
  rintro e w1 ⟨rfl, hb1⟩
  have K10 := ((Row.new w #[.int .u64 0, .int .u64 0, .int .u64 0, .int .u64 0] 24 _ rfl).nx hb1).alloc (.cells #[.int .u64 (lim t 0 : Int), .int .u64 (lim t 1 : Int), .int .u64 (lim t 2 : Int), .int .u64 (lim t 3 : Int)] 24)
  have K00 : Row (w1.alloc (.cells #[.int .u64 (lim t 0 : Int), .int .u64 (lim t 1 : Int), .int .u64 (lim t 2 : Int), .int .u64 (lim t 3 : Int)] 24)) w1.heap.size #[.int .u64 (lim t 0 : Int), .int .u64 (lim t 1 : Int), .int .u64 (lim t 2 : Int), .int .u64 (lim t 3 : Int)] 24 := Row.new w1 _ _ _ rfl
  have HN0 := Lib.hid ((((Nx.refl w).alloc (.cells #[.int .u64 0, .int .u64 0, .int .u64 0, .int .u64 0] 24)).trans hb1).alloc (.cells #[.int .u64 (lim t 0 : Int), .int .u64 (lim t 1 : Int), .int .u64 (lim t 2 : Int), .int .u64 (lim t 3 : Int)] 24))
  clear hb1 HO
  go_wp2_with fail
  generalize w1.heap.size = gT at *
  generalize (w1.alloc (.cells #[.int .u64 (lim t 0 : Int), .int .u64 (lim t 1 : Int), .int .u64 (lim t 2 : Int), .int .u64 (lim t 3 : Int)] 24)) = W at *
  obtain ⟨gZ, hgZ⟩ : ∃ gZ, w.heap.size = gZ := ⟨_, rfl⟩
  have HG1 := Lib.hid (show w.heap.size ≤ gZ by omega)
  rw [hgZ] at K10 ⊢
  clear hgZ
  have HW0 := HN0.out.size
  have HK0 := K00.lt
  have HK1 := K10.lt
  refine wp_region_inv [[], [], [0, 1, 1], [2], [3], [3], [], [6, 4, 2, 0, 1, 2, 3, 4, 6], [5, 7, 0, 1, 2, 3, 4, 5, 6, 7]] (Work4 b t d v1 gT gZ w W undef) (by kernel_rfl) (by kernel_rfl) (hord_of (by decide)) ?_ ?_ ?_
  · exact ⟨_, _, _, _, _, _, _, _, rfl, HN0.out.drew, Nat.le_refl _, K00.drew, K10.drew, (fun h => by cases h), (fun h => by cases h), (fun h => by cases h), (fun h => by cases h), (fun h => by cases h), (fun h => by cases h), (fun h => by cases h), (fun h => by cases h), (fun h => by cases h)⟩
  · rintro L ac wr ⟨x0, x1, x2, x3, x4, x5, x6, x8, rfl, HN, HZ, K0, K1, F0, F1, F2, F3, F4, F5, F6, F8, S7⟩ i hi hL hd K hK
    have hi' : i < 9 := hi
    have hcs : i = 0 ∨ i = 1 ∨ i = 2 ∨ i = 3 ∨ i = 4 ∨ i = 5 ∨ i = 6 ∨ i = 7 ∨ i = 8 := by omega
    clear hi hi'
    rcases hcs with rfl | rfl | rfl | rfl | rfl | rfl | rfl | rfl | rfl
    · refine wpOp_of rfl rfl (wp_load_row 24 (.tmp 4) rfl gT rfl 24 #[.int .u64 (lim t 0 : Int), .int .u64 (lim t 1 : Int), .int .u64 (lim t 2 : Int), .int .u64 (lim t 3 : Int)] (0, 0) _ K0 Try.underlying24 rfl (hsU t) (hK _ _ ?_))
      exact ⟨_, x1, x2, x3, x4, x5, x6, x8, rfl, HN, HZ, K0, K1, (fun _ => rfl), F1, F2, F3, F4, F5, F6, F8, S7⟩
    · refine wpOp_of rfl rfl (wp_call_of (some 26) rfl 15 #[.int .u64 1] (by kernel_rfl) _ (of_1 wr) (fun w' hn => hK _ _ ?_))
      exact ⟨x0, _, x2, x3, x4, x5, x6, x8, rfl, HN.trans hn, Nat.le_trans HZ hn.size, K0.nx hn, K1.nx hn, F0, (fun _ => rfl), F2, F3, F4, F5, (fun h => by obtain ⟨g, e, hg, r⟩ := F6 h; exact ⟨g, e, hg, r.nx hn⟩), F8, S7⟩
    · have e0 := F0 (hd 0 (by decide))
      subst e0
      have e1 := F1 (hd 1 (by decide))
      subst e1
      refine wpOp_of rfl rfl (wp_call_of (some 27) rfl 26 #[.agg #[.int .u64 (lim t 0 : Int), .int .u64 (lim t 1 : Int), .int .u64 (lim t 2 : Int), .int .u64 (lim t 3 : Int)], .agg #[.int .u64 (lim 1 0 : Int), .int .u64 (lim 1 1 : Int), .int .u64 (lim 1 2 : Int), .int .u64 (lim 1 3 : Int)]] (by kernel_rfl) _ (HADD.out wr) (fun w' hn => hK _ _ ?_))
      exact ⟨_, _, _, x3, x4, x5, x6, x8, rfl, HN.trans hn, Nat.le_trans HZ hn.size, K0.nx hn, K1.nx hn, F0, F1, (fun _ => rfl), F3, F4, F5, (fun h => by obtain ⟨g, e, hg, r⟩ := F6 h; exact ⟨g, e, hg, r.nx hn⟩), F8, S7⟩
    · have e2 := F2 (hd 2 (by decide))
      subst e2
      refine wpOp_of rfl rfl (wp_val_of (some 24) rfl (.tuple #[.agg #[.int .u64 (lim d 0 : Int), .int .u64 (lim d 1 : Int), .int .u64 (lim d 2 : Int), .int .u64 (lim d 3 : Int)], .bool v1]) (by kernel_rfl) (hK _ _ ?_))
      exact ⟨x0, x1, _, _, x4, x5, x6, x8, rfl, HN, HZ, K0, K1, F0, F1, F2, (fun _ => rfl), F4, F5, F6, F8, S7⟩
    · have e3 := F3 (hd 3 (by decide))
      subst e3
      refine wpOp_of rfl rfl (wp_val_of (some 28) rfl (.agg #[.int .u64 (lim d 0 : Int), .int .u64 (lim d 1 : Int), .int .u64 (lim d 2 : Int), .int .u64 (lim d 3 : Int)]) (by kernel_rfl) (hK _ _ ?_))
      exact ⟨x0, x1, x2, _, _, x5, x6, x8, rfl, HN, HZ, K0, K1, F0, F1, F2, F3, (fun _ => rfl), F5, F6, F8, S7⟩
    · have e3 := F3 (hd 3 (by decide))
      subst e3
      refine wpOp_of rfl rfl (wp_val_of (some 29) rfl (.bool v1) (by kernel_rfl) (hK _ _ ?_))
      exact ⟨x0, x1, x2, _, x4, _, x6, x8, rfl, HN, HZ, K0, K1, F0, F1, F2, F3, F4, (fun _ => rfl), F6, F8, S7⟩
    · have hs : L 7 = false := by
          rcases h : L 7 with _ | _
          · rfl
          · rw [S7 h] at hL; cases hL
      refine wpOp_of rfl rfl (wp_alloc_of (some 6) rfl 24 rfl (#[.int .u64 0, .int .u64 0, .int .u64 0, .int .u64 0]) hzU (hK _ _ ?_))
      exact ⟨x0, x1, x2, x3, x4, x5, _, x8, rfl, HN.alloc _, Nat.le_trans HZ (by rw [alloc_size]; exact Nat.le_succ _), K0.alloc _, K1.alloc _, F0, F1, F2, F3, F4, F5, (fun _ => ⟨_, rfl, HZ, by show Row _ _ (if L 7 = true then _ else _) _; rw [hs]; exact Row.new _ _ _ _ rfl⟩), F8, (fun _ => rfl)⟩
    · have e4 := F4 (hd 4 (by decide))
      subst e4
      obtain ⟨ga, ea, hga, ra⟩ := F6 (hd 6 (by decide))
      subst ea
      rw [if_neg (by rw [hL]; decide)] at ra
      refine wpOp_of rfl rfl (wp_store_row 24 (.tmp 6) (.tmp 28) rfl ga (#[.int .u64 (lim d 0 : Int), .int .u64 (lim d 1 : Int), .int .u64 (lim d 2 : Int), .int .u64 (lim d 3 : Int)]) rfl rfl 24 (#[.int .u64 0, .int .u64 0, .int .u64 0, .int .u64 0]) ra (hsU d) rfl (oneU d) (hK _ _ ?_))
      exact ⟨x0, x1, x2, x3, _, x5, _, x8, rfl, HN.setRow _ (Nat.le_trans HW0 hga), (by rw [size_setRow]; exact HZ), K0.setRow_other _ (Nat.ne_of_lt (Nat.lt_of_lt_of_le HK0 hga)), K1.setRow_other _ (Nat.ne_of_lt (Nat.lt_of_lt_of_le HK1 hga)), F0, F1, F2, F3, F4, F5, (fun _ => ⟨ga, rfl, hga, ra.setRow _⟩), F8, (fun _ => hd 6 (by decide))⟩
    · have e5 := F5 (hd 5 (by decide))
      subst e5
      refine wpOp_of rfl rfl (wp_val_of (some 7) rfl (.bool v1) (by kernel_rfl) (hK _ _ ?_))
      exact ⟨x0, x1, x2, x3, x4, _, x6, _, rfl, HN, HZ, K0, K1, F0, F1, F2, F3, F4, F5, F6, (fun _ => rfl), S7⟩
  · rintro L ac wr ⟨x0, x1, x2, x3, x4, x5, x6, x8, rfl, HN, HZ, K0, K1, F0, F1, F2, F3, F4, F5, F6, F8, S7⟩ hall
    have hall' : ∀ i, i < 9 → L i = true := hall
    have e0 := F0 (hall' 0 (by decide))
    have e1 := F1 (hall' 1 (by decide))
    have e2 := F2 (hall' 2 (by decide))
    have e3 := F3 (hall' 3 (by decide))
    have e4 := F4 (hall' 4 (by decide))
    have e5 := F5 (hall' 5 (by decide))
    obtain ⟨g6, e6, hg6, r6⟩ := F6 (hall' 6 (by decide))
    have e8 := F8 (hall' 8 (by decide))
    rw [if_pos (hall' 7 (by decide))] at r6
    subst e0 e1 e2 e3 e4 e5 e6 e8
    clear F0 F1 F2 F3 F4 F5 F6 F8 S7 hall hall'
    have HN0 := Lib.hid HN
    have K10 := K1
    have K00 := r6
    clear K0 K1 HN HZ HADD
    generalize g6 = gD at *
    obtain ⟨W, rfl⟩ : ∃ W : World, W = wr := ⟨_, rfl⟩
    have HW0 := HN0.out.size
    have HK0 := K00.lt
    have HK1 := K10.lt
    go_wp2_with fail
    refine wp_region_inv [[], [], [0, 1, 0], [2], [3], [3], [], [6, 4, 2, 0, 1, 2, 3, 4, 6], [5, 7, 0, 1, 2, 3, 4, 5, 6, 7]] (Work5 b t d l v1 v2 gT gZ gD w W undef) (by kernel_rfl) (by kernel_rfl) (hord_of (by decide)) ?_ ?_ ?_
    · exact ⟨_, _, _, _, _, _, _, _, rfl, HN0.out.drew, Nat.le_refl _, K00.drew, K10.drew, (fun h => by cases h), (fun h => by cases h), (fun h => by cases h), (fun h => by cases h), (fun h => by cases h), (fun h => by cases h), (fun h => by cases h), (fun h => by cases h), (fun h => by cases h)⟩
    · rintro L ac wr ⟨x0, x1, x2, x3, x4, x5, x6, x8, rfl, HN, HZ, K0, K1, F0, F1, F2, F3, F4, F5, F6, F8, S7⟩ i hi hL hd K hK
      have hi' : i < 9 := hi
      have hcs : i = 0 ∨ i = 1 ∨ i = 2 ∨ i = 3 ∨ i = 4 ∨ i = 5 ∨ i = 6 ∨ i = 7 ∨ i = 8 := by omega
      clear hi hi'
      rcases hcs with rfl | rfl | rfl | rfl | rfl | rfl | rfl | rfl | rfl
      · refine wpOp_of rfl rfl (wp_call_of (some 31) rfl 15 #[.int .u64 0] (by kernel_rfl) _ (of_0 wr) (fun w' hn => hK _ _ ?_))
        exact ⟨_, x1, x2, x3, x4, x5, x6, x8, rfl, HN.trans hn, Nat.le_trans HZ hn.size, K0.nx hn, K1.nx hn, (fun _ => rfl), F1, F2, F3, F4, F5, (fun h => by obtain ⟨g, e, hg, r⟩ := F6 h; exact ⟨g, e, hg, r.nx hn⟩), F8, S7⟩
      · refine wpOp_of rfl rfl (wp_load_row 24 (.tmp 6) rfl gD rfl 24 #[.int .u64 (lim d 0 : Int), .int .u64 (lim d 1 : Int), .int .u64 (lim d 2 : Int), .int .u64 (lim d 3 : Int)] (0, 0) _ K0 Try.underlying24 rfl (hsU d) (hK _ _ ?_))
        exact ⟨x0, _, x2, x3, x4, x5, x6, x8, rfl, HN, HZ, K0, K1, F0, (fun _ => rfl), F2, F3, F4, F5, F6, F8, S7⟩
      · have e0 := F0 (hd 0 (by decide))
        subst e0
        have e1 := F1 (hd 1 (by decide))
        subst e1
        refine wpOp_of rfl rfl (wp_call_of (some 33) rfl 28 #[.agg #[.int .u64 0, .int .u64 0, .int .u64 0, .int .u64 0], .agg #[.int .u64 (lim d 0 : Int), .int .u64 (lim d 1 : Int), .int .u64 (lim d 2 : Int), .int .u64 (lim d 3 : Int)]] (by kernel_rfl) _ (HSUB.out wr) (fun w' hn => hK _ _ ?_))
        exact ⟨_, _, _, x3, x4, x5, x6, x8, rfl, HN.trans hn, Nat.le_trans HZ hn.size, K0.nx hn, K1.nx hn, F0, F1, (fun _ => rfl), F3, F4, F5, (fun h => by obtain ⟨g, e, hg, r⟩ := F6 h; exact ⟨g, e, hg, r.nx hn⟩), F8, S7⟩
      · have e2 := F2 (hd 2 (by decide))
        subst e2
        refine wpOp_of rfl rfl (wp_val_of (some 30) rfl (.tuple #[.agg #[.int .u64 (lim l 0 : Int), .int .u64 (lim l 1 : Int), .int .u64 (lim l 2 : Int), .int .u64 (lim l 3 : Int)], .bool v2]) (by kernel_rfl) (hK _ _ ?_))
        exact ⟨x0, x1, _, _, x4, x5, x6, x8, rfl, HN, HZ, K0, K1, F0, F1, F2, (fun _ => rfl), F4, F5, F6, F8, S7⟩
      · have e3 := F3 (hd 3 (by decide))
        subst e3
        refine wpOp_of rfl rfl (wp_val_of (some 34) rfl (.agg #[.int .u64 (lim l 0 : Int), .int .u64 (lim l 1 : Int), .int .u64 (lim l 2 : Int), .int .u64 (lim l 3 : Int)]) (by kernel_rfl) (hK _ _ ?_))
        exact ⟨x0, x1, x2, _, _, x5, x6, x8, rfl, HN, HZ, K0, K1, F0, F1, F2, F3, (fun _ => rfl), F5, F6, F8, S7⟩
      · have e3 := F3 (hd 3 (by decide))
        subst e3
        refine wpOp_of rfl rfl (wp_val_of (some 35) rfl (.bool v2) (by kernel_rfl) (hK _ _ ?_))
        exact ⟨x0, x1, x2, _, x4, _, x6, x8, rfl, HN, HZ, K0, K1, F0, F1, F2, F3, F4, (fun _ => rfl), F6, F8, S7⟩
      · have hs : L 7 = false := by
            rcases h : L 7 with _ | _
            · rfl
            · rw [S7 h] at hL; cases hL
        refine wpOp_of rfl rfl (wp_alloc_of (some 8) rfl 24 rfl (#[.int .u64 0, .int .u64 0, .int .u64 0, .int .u64 0]) hzU (hK _ _ ?_))
        exact ⟨x0, x1, x2, x3, x4, x5, _, x8, rfl, HN.alloc _, Nat.le_trans HZ (by rw [alloc_size]; exact Nat.le_succ _), K0.alloc _, K1.alloc _, F0, F1, F2, F3, F4, F5, (fun _ => ⟨_, rfl, HZ, by show Row _ _ (if L 7 = true then _ else _) _; rw [hs]; exact Row.new _ _ _ _ rfl⟩), F8, (fun _ => rfl)⟩
      · have e4 := F4 (hd 4 (by decide))
        subst e4
        obtain ⟨ga, ea, hga, ra⟩ := F6 (hd 6 (by decide))
        subst ea
        rw [if_neg (by rw [hL]; decide)] at ra
        refine wpOp_of rfl rfl (wp_store_row 24 (.tmp 8) (.tmp 34) rfl ga (#[.int .u64 (lim l 0 : Int), .int .u64 (lim l 1 : Int), .int .u64 (lim l 2 : Int), .int .u64 (lim l 3 : Int)]) rfl rfl 24 (#[.int .u64 0, .int .u64 0, .int .u64 0, .int .u64 0]) ra (hsU l) rfl (oneU l) (hK _ _ ?_))
        exact ⟨x0, x1, x2, x3, _, x5, _, x8, rfl, HN.setRow _ (Nat.le_trans HW0 hga), (by rw [size_setRow]; exact HZ), K0.setRow_other _ (Nat.ne_of_lt (Nat.lt_of_lt_of_le HK0 hga)), K1.setRow_other _ (Nat.ne_of_lt (Nat.lt_of_lt_of_le HK1 hga)), F0, F1, F2, F3, F4, F5, (fun _ => ⟨ga, rfl, hga, ra.setRow _⟩), F8, (fun _ => hd 6 (by decide))⟩
      · have e5 := F5 (hd 5 (by decide))
        subst e5
        refine wpOp_of rfl rfl (wp_val_of (some 9) rfl (.bool v2) (by kernel_rfl) (hK _ _ ?_))
        exact ⟨x0, x1, x2, x3, x4, _, x6, _, rfl, HN, HZ, K0, K1, F0, F1, F2, F3, F4, F5, F6, (fun _ => rfl), S7⟩
    · rintro L ac wr ⟨x0, x1, x2, x3, x4, x5, x6, x8, rfl, HN, HZ, K0, K1, F0, F1, F2, F3, F4, F5, F6, F8, S7⟩ hall
      have hall' : ∀ i, i < 9 → L i = true := hall
      have e0 := F0 (hall' 0 (by decide))
      have e1 := F1 (hall' 1 (by decide))
      have e2 := F2 (hall' 2 (by decide))
      have e3 := F3 (hall' 3 (by decide))
      have e4 := F4 (hall' 4 (by decide))
      have e5 := F5 (hall' 5 (by decide))
      obtain ⟨g6, e6, hg6, r6⟩ := F6 (hall' 6 (by decide))
      have e8 := F8 (hall' 8 (by decide))
      rw [if_pos (hall' 7 (by decide))] at r6
      subst e0 e1 e2 e3 e4 e5 e6 e8
      clear F0 F1 F2 F3 F4 F5 F6 F8 S7 hall hall'
      have HN0 := Lib.hid HN
      obtain ⟨d0, d1, d2, d3⟩ := K0.four
      obtain ⟨l0, l1, l2, l3⟩ := r6.four
      have RZ := K1
      clear K0 K1 HN HZ HSUB K00 K10 HK0 HK1 HW0
      generalize g6 = gL at *
      go_wp2_with fail
      refine (HOV.out _).mono ?_
      rintro e w2 ⟨rfl, hb2⟩
      clear d0 d1 d2 d3 l0 l1 l2 l3 r6
      replace RZ := ((RZ.nx hb2).alloc (.cells #[.int .u64 (lim q 0 : Int), .int .u64 (lim q 1 : Int), .int .u64 (lim q 2 : Int), .int .u64 (lim q 3 : Int)] 24)).alloc (.cells #[.int .u64 (lim r 0 : Int), .int .u64 (lim r 1 : Int), .int .u64 (lim r 2 : Int), .int .u64 (lim r 3 : Int)] 24)
      have K00 : Row ((w2.alloc (.cells #[.int .u64 (lim q 0 : Int), .int .u64 (lim q 1 : Int), .int .u64 (lim q 2 : Int), .int .u64 (lim q 3 : Int)] 24)).alloc (.cells #[.int .u64 (lim r 0 : Int), .int .u64 (lim r 1 : Int), .int .u64 (lim r 2 : Int), .int .u64 (lim r 3 : Int)] 24)) w2.heap.size #[.int .u64 (lim q 0 : Int), .int .u64 (lim q 1 : Int), .int .u64 (lim q 2 : Int), .int .u64 (lim q 3 : Int)] 24 := (Row.new w2 _ _ _ rfl).alloc _
      have K10 := RZ
      clear RZ
      replace HN0 := Lib.hid (((HN0.out.trans hb2).alloc (.cells #[.int .u64 (lim q 0 : Int), .int .u64 (lim q 1 : Int), .int .u64 (lim q 2 : Int), .int .u64 (lim q 3 : Int)] 24)).alloc (.cells #[.int .u64 (lim r 0 : Int), .int .u64 (lim r 1 : Int), .int .u64 (lim r 2 : Int), .int .u64 (lim r 3 : Int)] 24))
      clear hb2
      go_wp2_with fail
      generalize w2.heap.size + 1 = g11 at *
      generalize w2.heap.size = g10 at *
      generalize ((w2.alloc (.cells #[.int .u64 (lim q 0 : Int), .int .u64 (lim q 1 : Int), .int .u64 (lim q 2 : Int), .int .u64 (lim q 3 : Int)] 24)).alloc (.cells #[.int .u64 (lim r 0 : Int), .int .u64 (lim r 1 : Int), .int .u64 (lim r 2 : Int), .int .u64 (lim r 3 : Int)] 24)) = W at *
      have HW0 := HN0.out.size
      have HK0 := K00.lt
      have HK1 := K10.lt
      refine wp_region_inv [[], [], [0, 1, 1], [2], [3], [3], [], [6, 4, 2, 0, 1, 2, 3, 4, 6], [5, 7, 0, 1, 2, 3, 4, 5, 6, 7]] (Work7 b t d l q r u v1 v2 v3 er gT gZ gD gL g10 g11 w W undef) (by kernel_rfl) (by kernel_rfl) (hord_of (by decide)) ?_ ?_ ?_
      · exact ⟨_, _, _, _, _, _, _, _, rfl, HN0.out.drew, Nat.le_refl _, K00.drew, K10.drew, (fun h => by cases h), (fun h => by cases h), (fun h => by cases h), (fun h => by cases h), (fun h => by cases h), (fun h => by cases h), (fun h => by cases h), (fun h => by cases h), (fun h => by cases h)⟩
      · rintro L ac wr ⟨x0, x1, x2, x3, x4, x5, x6, x8, rfl, HN, HZ, K0, K1, F0, F1, F2, F3, F4, F5, F6, F8, S7⟩ i hi hL hd K hK
        have hi' : i < 9 := hi
        have hcs : i = 0 ∨ i = 1 ∨ i = 2 ∨ i = 3 ∨ i = 4 ∨ i = 5 ∨ i = 6 ∨ i = 7 ∨ i = 8 := by omega
        clear hi hi'
        rcases hcs with rfl | rfl | rfl | rfl | rfl | rfl | rfl | rfl | rfl
        · refine wpOp_of rfl rfl (wp_load_row 24 (.tmp 10) rfl g10 rfl 24 #[.int .u64 (lim q 0 : Int), .int .u64 (lim q 1 : Int), .int .u64 (lim q 2 : Int), .int .u64 (lim q 3 : Int)] (0, 0) _ K0 Try.underlying24 rfl (hsU q) (hK _ _ ?_))
          exact ⟨_, x1, x2, x3, x4, x5, x6, x8, rfl, HN, HZ, K0, K1, (fun _ => rfl), F1, F2, F3, F4, F5, F6, F8, S7⟩
        · refine wpOp_of rfl rfl (wp_call_of (some 45) rfl 15 #[.int .u64 1] (by kernel_rfl) _ (of_1 wr) (fun w' hn => hK _ _ ?_))
          exact ⟨x0, _, x2, x3, x4, x5, x6, x8, rfl, HN.trans hn, Nat.le_trans HZ hn.size, K0.nx hn, K1.nx hn, F0, (fun _ => rfl), F2, F3, F4, F5, (fun h => by obtain ⟨g, e, hg, r⟩ := F6 h; exact ⟨g, e, hg, r.nx hn⟩), F8, S7⟩
        · have e0 := F0 (hd 0 (by decide))
          subst e0
          have e1 := F1 (hd 1 (by decide))
          subst e1
          refine wpOp_of rfl rfl (wp_call_of (some 46) rfl 26 #[.agg #[.int .u64 (lim q 0 : Int), .int .u64 (lim q 1 : Int), .int .u64 (lim q 2 : Int), .int .u64 (lim q 3 : Int)], .agg #[.int .u64 (lim 1 0 : Int), .int .u64 (lim 1 1 : Int), .int .u64 (lim 1 2 : Int), .int .u64 (lim 1 3 : Int)]] (by kernel_rfl) _ (HADD2.out wr) (fun w' hn => hK _ _ ?_))
          exact ⟨_, _, _, x3, x4, x5, x6, x8, rfl, HN.trans hn, Nat.le_trans HZ hn.size, K0.nx hn, K1.nx hn, F0, F1, (fun _ => rfl), F3, F4, F5, (fun h => by obtain ⟨g, e, hg, r⟩ := F6 h; exact ⟨g, e, hg, r.nx hn⟩), F8, S7⟩
        · have e2 := F2 (hd 2 (by decide))
          subst e2
          refine wpOp_of rfl rfl (wp_val_of (some 43) rfl (.tuple #[.agg #[.int .u64 (lim u 0 : Int), .int .u64 (lim u 1 : Int), .int .u64 (lim u 2 : Int), .int .u64 (lim u 3 : Int)], .bool v3]) (by kernel_rfl) (hK _ _ ?_))
          exact ⟨x0, x1, _, _, x4, x5, x6, x8, rfl, HN, HZ, K0, K1, F0, F1, F2, (fun _ => rfl), F4, F5, F6, F8, S7⟩
        · have e3 := F3 (hd 3 (by decide))
          subst e3
          refine wpOp_of rfl rfl (wp_val_of (some 47) rfl (.agg #[.int .u64 (lim u 0 : Int), .int .u64 (lim u 1 : Int), .int .u64 (lim u 2 : Int), .int .u64 (lim u 3 : Int)]) (by kernel_rfl) (hK _ _ ?_))
          exact ⟨x0, x1, x2, _, _, x5, x6, x8, rfl, HN, HZ, K0, K1, F0, F1, F2, F3, (fun _ => rfl), F5, F6, F8, S7⟩
        · have e3 := F3 (hd 3 (by decide))
          subst e3
          refine wpOp_of rfl rfl (wp_val_of (some 48) rfl (.bool v3) (by kernel_rfl) (hK _ _ ?_))
          exact ⟨x0, x1, x2, _, x4, _, x6, x8, rfl, HN, HZ, K0, K1, F0, F1, F2, F3, F4, (fun _ => rfl), F6, F8, S7⟩
        · have hs : L 7 = false := by
              rcases h : L 7 with _ | _
              · rfl
              · rw [S7 h] at hL; cases hL
          refine wpOp_of rfl rfl (wp_alloc_of (some 13) rfl 24 rfl (#[.int .u64 0, .int .u64 0, .int .u64 0, .int .u64 0]) hzU (hK _ _ ?_))
          exact ⟨x0, x1, x2, x3, x4, x5, _, x8, rfl, HN.alloc _, Nat.le_trans HZ (by rw [alloc_size]; exact Nat.le_succ _), K0.alloc _, K1.alloc _, F0, F1, F2, F3, F4, F5, (fun _ => ⟨_, rfl, HZ, by show Row _ _ (if L 7 = true then _ else _) _; rw [hs]; exact Row.new _ _ _ _ rfl⟩), F8, (fun _ => rfl)⟩
        · have e4 := F4 (hd 4 (by decide))
          subst e4
          obtain ⟨ga, ea, hga, ra⟩ := F6 (hd 6 (by decide))
          subst ea
          rw [if_neg (by rw [hL]; decide)] at ra
          refine wpOp_of rfl rfl (wp_store_row 24 (.tmp 13) (.tmp 47) rfl ga (#[.int .u64 (lim u 0 : Int), .int .u64 (lim u 1 : Int), .int .u64 (lim u 2 : Int), .int .u64 (lim u 3 : Int)]) rfl rfl 24 (#[.int .u64 0, .int .u64 0, .int .u64 0, .int .u64 0]) ra (hsU u) rfl (oneU u) (hK _ _ ?_))
          exact ⟨x0, x1, x2, x3, _, x5, _, x8, rfl, HN.setRow _ (Nat.le_trans HW0 hga), (by rw [size_setRow]; exact HZ), K0.setRow_other _ (Nat.ne_of_lt (Nat.lt_of_lt_of_le HK0 hga)), K1.setRow_other _ (Nat.ne_of_lt (Nat.lt_of_lt_of_le HK1 hga)), F0, F1, F2, F3, F4, F5, (fun _ => ⟨ga, rfl, hga, ra.setRow _⟩), F8, (fun _ => hd 6 (by decide))⟩
        · have e5 := F5 (hd 5 (by decide))
          subst e5
          refine wpOp_of rfl rfl (wp_val_of (some 14) rfl (.bool v3) (by kernel_rfl) (hK _ _ ?_))
          exact ⟨x0, x1, x2, x3, x4, _, x6, _, rfl, HN, HZ, K0, K1, F0, F1, F2, F3, F4, F5, F6, (fun _ => rfl), S7⟩
      · rintro L ac wr ⟨x0, x1, x2, x3, x4, x5, x6, x8, rfl, HN, HZ, K0, K1, F0, F1, F2, F3, F4, F5, F6, F8, S7⟩ hall
        have hall' : ∀ i, i < 9 → L i = true := hall
        have e0 := F0 (hall' 0 (by decide))
        have e1 := F1 (hall' 1 (by decide))
        have e2 := F2 (hall' 2 (by decide))
        have e3 := F3 (hall' 3 (by decide))
        have e4 := F4 (hall' 4 (by decide))
        have e5 := F5 (hall' 5 (by decide))
        obtain ⟨g6, e6, hg6, r6⟩ := F6 (hall' 6 (by decide))
        have e8 := F8 (hall' 8 (by decide))
        rw [if_pos (hall' 7 (by decide))] at r6
        subst e0 e1 e2 e3 e4 e5 e6 e8
        clear F0 F1 F2 F3 F4 F5 F6 F8 S7 hall hall'
        obtain ⟨u0, u1, u2, u3⟩ := r6.four
        obtain ⟨z0, z1, z2, z3⟩ := K1.zero4
        have fz := K1.frozen
        have NF := Lib.hid HN
        have hgz := HG1.out
        clear K0 K1 HN HZ K00 K10 HK0 HK1 HW0 r6
        go_wp2
        exact bodyPost_ret (v := .tuple #[.agg #[.int .u64 (lim u 0 : Int), .int .u64 (lim u 1 : Int), .int .u64 (lim u 2 : Int), .int .u64 (lim u 3 : Int)], .int .i64 0]) (by simp [results, Try.results42, go_sem, z0, z1, z2, z3, fz]) rfl
          ⟨rfl, by repeat (first | with_reducible exact NF.out | with_reducible refine Nx.setAt ?_ _ hgz)⟩

theorem twork_any (b : Nat) (w : World) (hb : (b : Int) ≤ 4294967295) :
    Calls Try.prog 42 #[.int .u32 (b : Int)] w fun e w' => e = .returned (.tuple #[.agg #[.int .u64 (lim (wkN b) 0 : Int), .int .u64 (lim (wkN b) 1 : Int), .int .u64 (lim (wkN b) 2 : Int), .int .u64 (lim (wkN b) 3 : Int)], .int .i64 (ofE b)]) ∧ Nx w w' := by
  by_cases h : ofE b = 0
  · have e : wkN b = workN (ofT b) := if_pos h
    rw [e, h]
    exact twork_yes b w hb h
  · have h5 : ofE b = 5 := by
      unfold ofE at h ⊢
      split
      · rfl
      · rename_i h2; rw [if_neg h2] at h; exact absurd rfl h
    have e : wkN b = 0 := if_neg h
    obtain ⟨z0, z1, z2, z3⟩ := lim_nought
    rw [e, h5, z0, z1, z2, z3]
    exact twork_no b w hb h5
end Go.Proofs.Ytggemncdnclhnaa
