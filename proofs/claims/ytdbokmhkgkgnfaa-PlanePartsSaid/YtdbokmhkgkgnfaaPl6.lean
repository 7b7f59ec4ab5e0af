/- LAYER 5: the document's Turn and Back. -/
import Derived.Test.YtdbokmhkgkgnfaaPl5
namespace Go.Proofs.Ytdbokmhkgkgnfaa
open Go Go.RowKit
set_option linter.unusedVariables false
set_option linter.unusedSimpArgs false

theorem trA_succ (i : Nat) (a b : Int) : trA ((i + 1 : Nat) : Int) a b = -trB (i : Int) a b ∧ trB ((i + 1 : Nat) : Int) a b = trA (i : Int) a b := by
  unfold trA trB
  have hc : i % 4 = 0 ∨ i % 4 = 1 ∨ i % 4 = 2 ∨ i % 4 = 3 := by omega
  rcases hc with hc | hc | hc | hc
  · have e1 : ((i + 1 : Nat) : Int) % 4 = 1 := by omega
    have e2 : (i : Int) % 4 = 0 := by omega
    rw [e1, e2]; simp
  · have e1 : ((i + 1 : Nat) : Int) % 4 = 2 := by omega
    have e2 : (i : Int) % 4 = 1 := by omega
    rw [e1, e2]; simp
  · have e1 : ((i + 1 : Nat) : Int) % 4 = 3 := by omega
    have e2 : (i : Int) % 4 = 2 := by omega
    rw [e1, e2]; simp
  · have e1 : ((i + 1 : Nat) : Int) % 4 = 0 := by omega
    have e2 : (i : Int) % 4 = 3 := by omega
    rw [e1, e2]; simp
theorem trA_mod (k : Int) (a b : Int) : trA ((k % 4).toNat : Int) a b = trA k a b ∧ trB ((k % 4).toNat : Int) a b = trB k a b := by
  have e : ((k % 4).toNat : Int) % 4 = k % 4 := by omega
  unfold trA trB
  rw [e]
  exact ⟨rfl, rfl⟩
theorem tr_abs (k : Int) (a b : Int) (m : Nat) (ha : a.natAbs ≤ m) (hb : b.natAbs ≤ m) : (trA k a b).natAbs ≤ m ∧ (trB k a b).natAbs ≤ m := by
  unfold trA trB
  constructor
  · split
    · omega
    · split
      · omega
      · split <;> omega
  · split
    · omega
    · split
      · omega
      · split <;> omega
theorem tmod4 (k : Int) : (Int.tmod k 4 = k % 4 ∧ 0 ≤ Int.tmod k 4) ∨ (Int.tmod k 4 + 4 = k % 4 ∧ Int.tmod k 4 < 0) := by
  rw [Int.tmod_eq_emod]
  have h := Int.emod_nonneg k (show (4 : Int) ≠ 0 by decide)
  split
  · left; omega
  · right
    have h2 := Int.emod_lt_of_pos k (show (0 : Int) < 4 by decide)
    constructor
    · simp
    · simp; omega
set_option maxRecDepth 100000 in
set_option maxHeartbeats 4000000 in
theorem rturn_go (a b : Int) (n : Nat) (hn : n < 4) (ha : a.natAbs ≤ 16777216) (hb : b.natAbs ≤ 16777216) (k t : Int) (ht : Int.tmod k 4 = t) (h4 : (t = (n : Int)) ∨ (t + 4 = (n : Int) ∧ t < 0)) (w : World) :
    Calls Try.prog 25 #[.agg #[.int .i64 a, .int .i64 b], .int .i64 k] w fun e w' => e = .returned (.agg #[.int .i64 (trA (n : Int) a b), .int .i64 (trB (n : Int) a b)]) ∧ Nx w w' := by
  have cz := Lib.hid info_spot
  have H := Lib.hid (fun i => tr_abs (i : Int) a b 16777216 ha hb)
  have hn0 : (n : Int) < 4 := by omega
  have hw4 : IntKind.i64.wrap (t + 4) = t + 4 := IntWalk.i64_in _ (by omega)
  have hwt : IntKind.i64.wrap t = t := IntWalk.i64_in _ (by omega)
  have b0 : trA ((0 : Nat) : Int) a b = a := rfl
  have b1 : trB ((0 : Nat) : Int) a b = b := rfl
  replace b0 := Lib.hid b0
  replace b1 := Lib.hid b1
  clear ha hb
  rcases h4 with h4 | ⟨h4, h5⟩
  · subst h4
    have hnn : ¬ (n : Int) < 0 := by omega
    have HT := Lib.hid hn
    clear hn
    go_enter Try.func25, Try.ntmps25
    go_wp2_with fail
    go_loopw [6] (fun iv wr => ∃ i : Nat, iv = .int .i64 (i : Int) ∧ i ≤ n ∧ Hid (Nx w wr) ∧ Hid (Row wr (w.heap.size + 1) #[.int .i64 0, .int .i64 0] 28) ∧ Row wr w.heap.size #[.int .i64 (trA (i : Int) a b), .int .i64 (trB (i : Int) a b)] 28) (fun iv _ => n - (intOf iv).toNat)
    case atStart => exact ⟨0, rfl, by omega, Lib.hid (((Nx.refl w).alloc _).alloc _), Lib.hid (Row.new2 _ _ _ _), by rw [b0.out, b1.out]; exact (Row.new _ _ _ _ rfl).alloc _⟩
    case round =>
      obtain ⟨i, rfl, hi, HN, R0, R1⟩ := hrel
      by_cases hlt : i < n
      · obtain ⟨g1, g2⟩ := H.out i
        have g3 := Lib.hid (trA_succ i a b)
        generalize trA (i : Int) a b = A at *
        generalize trB (i : Int) a b = B at *
        have a0 := R1.cell (i := 0) (v := .int .i64 A) rfl
        have a1 := R1.cell (i := 1) (v := .int .i64 B) rfl
        have f0 := R1.frozen 0
        have f1 := R1.frozen 1
        have hlt1 : (i : Int) < (n : Int) := by omega
        have hi1 : (i : Int) < 4 := by omega
        have HI := Lib.hid hlt
        have w3 : IntKind.i64.wrap (-B) = -B := IntWalk.i64_in _ (by omega)
        have X1 : Hid (∀ v0 v1, Row ((wr.setCell ⟨w.heap.size, 0, none⟩ v0).setCell ⟨w.heap.size, 1, none⟩ v1) w.heap.size #[v0, v1] 28) := Lib.hid fun v0 v1 => (R1.set 0 v0).set 1 v1
        have X0 : Hid (∀ v0 v1, Row ((wr.setCell ⟨w.heap.size, 0, none⟩ v0).setCell ⟨w.heap.size, 1, none⟩ v1) (w.heap.size + 1) #[.int .i64 0, .int .i64 0] 28) := Lib.hid fun v0 v1 => (R0.out.other _ 0 v0 (by omega)).other _ 1 v1 (by omega)
        have XN : Hid (∀ v0 v1, Nx w ((wr.setCell ⟨w.heap.size, 0, none⟩ v0).setCell ⟨w.heap.size, 1, none⟩ v1)) := Lib.hid fun v0 v1 => (HN.out.setAt (i := 0) v0 (Nat.le_refl _)).setAt (i := 1) v1 (Nat.le_refl _)
        clear g1 g2 hlt hi
        go_wp2_with fail
        go_roundw
        case rel => exact ⟨i + 1, by go_num, HI.out, Lib.hid (XN.out _ _), Lib.hid (X0.out _ _), by rw [g3.out.1, g3.out.2]; exact X1.out _ _⟩
        case measure => have := HI.out; simp [intOf]; omega
      · obtain rfl : i = n := by have := HT.out; omega
        generalize hA : trA (i : Int) a b = A at *
        generalize hB : trB (i : Int) a b = B at *
        replace hA := Lib.hid hA
        replace hB := Lib.hid hB
        clear hlt hi
        have z0 := R0.out.cell (i := 0) (v := .int .i64 0) rfl
        have z1 := R0.out.cell (i := 1) (v := .int .i64 0) rfl
        have y0 := R0.out.frozen 0
        have y1 := R0.out.frozen 1
        go_wp2_with (refine wpList_load_row rfl 28 (.tmp 2) rfl w.heap.size rfl 28 #[.int .i64 A, .int .i64 B] (0, 0) _ R1 Try.underlying28 rfl cz.out ?_)
        exact bodyPost_ret (results_cell_row Try.results25 _ _ (w.heap.size + 1) 28 #[.int .i64 A, .int .i64 B] (0, 0) _ rfl ((R0.out.set 0 _).set 1 _) Try.underlying28 rfl cz.out) rfl ⟨by rw [hA.out, hB.out], (HN.out.setAt (i := 0) _ (by omega)).setAt (i := 1) _ (by omega)⟩
  · have HT := Lib.hid hn
    have H4 := Lib.hid h4
    clear hn h4
    go_enter Try.func25, Try.ntmps25
    go_wp2_with fail
    rw [H4.out]
    go_loopw [6] (fun iv wr => ∃ i : Nat, iv = .int .i64 (i : Int) ∧ i ≤ n ∧ Hid (Nx w wr) ∧ Hid (Row wr (w.heap.size + 1) #[.int .i64 0, .int .i64 0] 28) ∧ Row wr w.heap.size #[.int .i64 (trA (i : Int) a b), .int .i64 (trB (i : Int) a b)] 28) (fun iv _ => n - (intOf iv).toNat)
    case atStart => exact ⟨0, rfl, by omega, Lib.hid (((Nx.refl w).alloc _).alloc _), Lib.hid (Row.new2 _ _ _ _), by rw [b0.out, b1.out]; exact (Row.new _ _ _ _ rfl).alloc _⟩
    case round =>
      obtain ⟨i, rfl, hi, HN, R0, R1⟩ := hrel
      by_cases hlt : i < n
      · obtain ⟨g1, g2⟩ := H.out i
        have g3 := Lib.hid (trA_succ i a b)
        generalize trA (i : Int) a b = A at *
        generalize trB (i : Int) a b = B at *
        have a0 := R1.cell (i := 0) (v := .int .i64 A) rfl
        have a1 := R1.cell (i := 1) (v := .int .i64 B) rfl
        have f0 := R1.frozen 0
        have f1 := R1.frozen 1
        have hlt1 : (i : Int) < (n : Int) := by omega
        have hi1 : (i : Int) < 4 := by omega
        have HI := Lib.hid hlt
        have w3 : IntKind.i64.wrap (-B) = -B := IntWalk.i64_in _ (by omega)
        have X1 : Hid (∀ v0 v1, Row ((wr.setCell ⟨w.heap.size, 0, none⟩ v0).setCell ⟨w.heap.size, 1, none⟩ v1) w.heap.size #[v0, v1] 28) := Lib.hid fun v0 v1 => (R1.set 0 v0).set 1 v1
        have X0 : Hid (∀ v0 v1, Row ((wr.setCell ⟨w.heap.size, 0, none⟩ v0).setCell ⟨w.heap.size, 1, none⟩ v1) (w.heap.size + 1) #[.int .i64 0, .int .i64 0] 28) := Lib.hid fun v0 v1 => (R0.out.other _ 0 v0 (by omega)).other _ 1 v1 (by omega)
        have XN : Hid (∀ v0 v1, Nx w ((wr.setCell ⟨w.heap.size, 0, none⟩ v0).setCell ⟨w.heap.size, 1, none⟩ v1)) := Lib.hid fun v0 v1 => (HN.out.setAt (i := 0) v0 (Nat.le_refl _)).setAt (i := 1) v1 (Nat.le_refl _)
        clear g1 g2 hlt hi
        go_wp2_with fail
        go_roundw
        case rel => exact ⟨i + 1, by go_num, HI.out, Lib.hid (XN.out _ _), Lib.hid (X0.out _ _), by rw [g3.out.1, g3.out.2]; exact X1.out _ _⟩
        case measure => have := HI.out; simp [intOf]; omega
      · obtain rfl : i = n := by have := HT.out; omega
        generalize hA : trA (i : Int) a b = A at *
        generalize hB : trB (i : Int) a b = B at *
        replace hA := Lib.hid hA
        replace hB := Lib.hid hB
        clear hlt hi
        have z0 := R0.out.cell (i := 0) (v := .int .i64 0) rfl
        have z1 := R0.out.cell (i := 1) (v := .int .i64 0) rfl
        have y0 := R0.out.frozen 0
        have y1 := R0.out.frozen 1
        go_wp2_with (refine wpList_load_row rfl 28 (.tmp 2) rfl w.heap.size rfl 28 #[.int .i64 A, .int .i64 B] (0, 0) _ R1 Try.underlying28 rfl cz.out ?_)
        exact bodyPost_ret (results_cell_row Try.results25 _ _ (w.heap.size + 1) 28 #[.int .i64 A, .int .i64 B] (0, 0) _ rfl ((R0.out.set 0 _).set 1 _) Try.underlying28 rfl cz.out) rfl ⟨by rw [hA.out, hB.out], (HN.out.setAt (i := 0) _ (by omega)).setAt (i := 1) _ (by omega)⟩
theorem rturn_any (a b : Int) (ha : a.natAbs ≤ 16777216) (hb : b.natAbs ≤ 16777216) (k : Int) (w : World) :
    Calls Try.prog 25 #[.agg #[.int .i64 a, .int .i64 b], .int .i64 k] w fun e w' => e = .returned (.agg #[.int .i64 (trA k a b), .int .i64 (trB k a b)]) ∧ Nx w w' := by
  obtain ⟨e1, e2⟩ := trA_mod k a b
  rw [← e1, ← e2]
  refine rturn_go a b (k % 4).toNat (by omega) ha hb k _ rfl ?_ w
  rcases tmod4 k with ⟨h, h2⟩ | ⟨h, h2⟩
  · left; omega
  · right; omega
end Go.Proofs.Ytdbokmhkgkgnfaa
