/- LAYER 5: the document's Of. -/
import Derived.Test.YtdbokmhkgkgnfaaPl4
import Derived.Test.YtdbokmhkgkgnfaaRowU
import Derived.StillTailTactics
import Derived.Laws.Rows
import Derived.Laws.Tables
namespace Go.Proofs.Ytdbokmhkgkgnfaa
open Go Go.RowKit
set_option linter.unusedVariables false
set_option linter.unusedSimpArgs false

theorem info_spot : (Try.prog.info? 28).map (·.size) = some 2 := by kernel_rfl
def OfR (i m : Nat) (A B C D TA TI : Int) : Prop := ∃ k w : Nat, i + k = 40 ∧ m < 2 ^ k ∧ w * 2 ^ k ≤ 2 ^ 40 ∧ 1 ≤ w ∧ (A.natAbs ≤ w ∧ B.natAbs ≤ w ∧ C.natAbs ≤ w ∧ D.natAbs ≤ w) ∧ A + (plS k m C D).1 = TA ∧ B + (plS k m C D).2 = TI
theorem ofR_begin (n : Nat) (h : n < 2 ^ 40) : OfR 0 n 0 0 1 0 (plA n) (plI n) :=
  ⟨40, 1, rfl, h, by decide, by decide, by decide, by simp [plA], by simp [plI]⟩
theorem ofR_end {m : Nat} {A B C D TA TI : Int} (h : OfR 40 m A B C D TA TI) : A = TA ∧ B = TI := by
  obtain ⟨k, w, hk, hm, -, -, -, h2, h3⟩ := h
  obtain rfl : k = 0 := by omega
  simp only [plS, Int.add_zero] at h2 h3
  exact ⟨h2, h3⟩
theorem ofR_step {i m : Nat} {A B C D TA TI : Int} (h : OfR i m A B C D TA TI) (hi : i < 40) :
    (A.natAbs ≤ 2 ^ 39 ∧ B.natAbs ≤ 2 ^ 39 ∧ C.natAbs ≤ 2 ^ 39 ∧ D.natAbs ≤ 2 ^ 39) ∧ (m % 2 = 1 → OfR (i + 1) (m / 2) (A + C) (B + D) (-C - D) (C - D) TA TI) ∧ (m % 2 = 0 → OfR (i + 1) (m / 2) A B (-C - D) (C - D) TA TI) := by
  obtain ⟨k, w, hi2, hk, hw, hw1, hb, h3, h4⟩ := h
  obtain ⟨k, rfl⟩ : ∃ k', k = k' + 1 := ⟨k - 1, by omega⟩
  have hp := pow_pos2 k
  have hww : w * 2 ≤ 2 ^ 40 := Nat.le_trans (Nat.mul_le_mul_left w (by rw [Nat.pow_succ]; omega)) hw
  have hw2 : (2 * w) * 2 ^ k ≤ 2 ^ 40 := by rw [Nat.pow_succ] at hw; rw [show 2 * w * 2 ^ k = w * (2 ^ k * 2) by ac_rfl]; exact hw
  have hm2 : m / 2 < 2 ^ k := by rw [Nat.pow_succ] at hk; omega
  refine ⟨⟨by omega, by omega, by omega, by omega⟩, fun ho => ?_, fun ho => ?_⟩
  · refine ⟨k, 2 * w, by omega, hm2, hw2, by omega, ⟨by omega, by omega, by omega, by omega⟩, ?_, ?_⟩
    · simp only [plS, ho, if_true] at h3; omega
    · simp only [plS, ho, if_true] at h4; omega
  · refine ⟨k, 2 * w, by omega, hm2, hw2, by omega, ⟨by omega, by omega, by omega, by omega⟩, ?_, ?_⟩
    · simp only [plS, ho] at h3; simpa using h3
    · simp only [plS, ho] at h4; simpa using h4
theorem u64w (m : Nat) (h : m ≤ 1099511627776) : IntKind.u64.wrap ((m : Int) / 2) = ((m / 2 : Nat) : Int) := by
  rw [IntKind.wrap_u64]; omega
theorem results_row_tmp {P : Program} {fn : Func} {p q : Tmp} {ty : TypeId} (h : fn.results = #[.cell p ty, .tmp q]) (tmps : Array Value) (w : World) (g : Nat) (t : TypeId) (cs : Array Value) (fr : Nat × Nat) (d : TypeDesc)
    (hp : tmps.getD p undef = .pointer (some ⟨g, 0, none⟩)) (hg : w.heap[g]? = some (.cells cs t fr))
    (hu : P.underlying ty = some d) (hd : (match d with | .struct _ | .array _ _ => true | _ => false) = true) (hi : (P.info? ty).map (·.size) = some cs.size) :
    (results fn tmps).run P w = .ok (.tuple #[.agg cs, tmps.getD q undef]) w := by
  have hp' : tmps[p]?.getD undef = .pointer (some ⟨g, 0, none⟩) := by simpa using hp
  simp [results, h, hp', asAddr, run_loadVar_row w g t ty cs fr d hg hu hd hi]
set_option maxRecDepth 100000 in
set_option maxHeartbeats 4000000 in
theorem rof_ok (n : Nat) (h : n < 2 ^ 40) (w : World) : Calls Try.prog 15 #[.int .u64 (n : Int)] w fun e w' => e = .returned (.tuple #[.agg #[.int .i64 (plA n), .int .i64 (plI n)], .int .i64 0]) ∧ Nx w w' := by
  have h1 : decide ((1099511627776 : Int) ≤ (n : Int)) = false := by rw [decide_eq_false_iff_not]; omega
  have HJ := Lib.hid (ofR_begin n h)
  have cz := Lib.hid info_spot
  have hn40 : Hid (n < 1099511627776) := Lib.hid (by omega)
  clear h
  go_enter Try.func15, Try.ntmps15
  go_wp2_with fail
  go_loopw [0, 6] (fun nv iv wr => ∃ (i m : Nat) (A B C D : Int), nv = .int .u64 (m : Int) ∧ iv = .int .i64 (i : Int) ∧ i ≤ 40 ∧ Hid (m ≤ n) ∧ Hid (OfR i m A B C D (plA n) (plI n)) ∧ Hid (Nx w wr) ∧ Hid (Row wr w.heap.size #[.int .i64 0, .int .i64 0] 28) ∧ Row wr (w.heap.size + 1) #[.int .i64 A, .int .i64 B] 28 ∧ Row wr (w.heap.size + 1 + 1) #[.int .i64 C, .int .i64 D] 28) (fun _ iv _ => 40 - (intOf iv).toNat)
  case atStart => exact ⟨0, n, 0, 0, 1, 0, rfl, rfl, by decide, Lib.hid (Nat.le_refl _), HJ, Lib.hid ((((Nx.refl w).alloc _).alloc _).alloc _), Lib.hid (((Row.new _ _ _ _ rfl).alloc _).alloc _), (Row.new2 _ _ _ _).alloc _, Row.new3 _ _ _ _ _⟩
  case round =>
    clear HJ h1
    obtain ⟨i, m, A, B, C, D, rfl, rfl, hi, hm, HJ, HN, R0, R1, R2⟩ := hrel
    have a0 := R1.cell (i := 0) (v := .int .i64 A) rfl
    have a1 := R1.cell (i := 1) (v := .int .i64 B) rfl
    have c0 := R2.cell (i := 0) (v := .int .i64 C) rfl
    have c1 := R2.cell (i := 1) (v := .int .i64 D) rfl
    by_cases hlt : i < 40
    · obtain ⟨⟨b1, b2, b3, b4⟩, s1, s2⟩ := ofR_step HJ.out hlt
      have hlt1 : (i : Int) < 40 := by omega
      have HI := Lib.hid hlt
      have w1 : IntKind.i64.wrap (A + C) = A + C := IntWalk.i64_in _ (by omega)
      have w2 : IntKind.i64.wrap (B + D) = B + D := IntWalk.i64_in _ (by omega)
      have w3 : IntKind.i64.wrap (-C) = -C := IntWalk.i64_in _ (by omega)
      have w4 : IntKind.i64.wrap (-C - D) = -C - D := IntWalk.i64_in _ (by omega)
      have w5 : IntKind.i64.wrap (C - D) = C - D := IntWalk.i64_in _ (by omega)
      have f10 := R1.frozen 0
      have f11 := R1.frozen 1
      have f20 := R2.frozen 0
      have f21 := R2.frozen 1
      have X1 : Hid (∀ v0 v1 u0 u1, Row ((((wr.setCell ⟨w.heap.size + 1, 0, none⟩ v0).setCell ⟨w.heap.size + 1, 1, none⟩ v1).setCell ⟨w.heap.size + 1 + 1, 0, none⟩ u0).setCell ⟨w.heap.size + 1 + 1, 1, none⟩ u1) (w.heap.size + 1) #[v0, v1] 28) := Lib.hid fun v0 v1 u0 u1 => (((R1.set 0 v0).set 1 v1).other _ 0 u0 (by omega)).other _ 1 u1 (by omega)
      have X2 : Hid (∀ v0 v1 u0 u1, Row ((((wr.setCell ⟨w.heap.size + 1, 0, none⟩ v0).setCell ⟨w.heap.size + 1, 1, none⟩ v1).setCell ⟨w.heap.size + 1 + 1, 0, none⟩ u0).setCell ⟨w.heap.size + 1 + 1, 1, none⟩ u1) (w.heap.size + 1 + 1) #[u0, u1] 28) := Lib.hid fun v0 v1 u0 u1 => (((R2.other _ 0 v0 (by omega)).other _ 1 v1 (by omega)).set 0 u0).set 1 u1
      have X0 : Hid (∀ v0 v1 u0 u1, Row ((((wr.setCell ⟨w.heap.size + 1, 0, none⟩ v0).setCell ⟨w.heap.size + 1, 1, none⟩ v1).setCell ⟨w.heap.size + 1 + 1, 0, none⟩ u0).setCell ⟨w.heap.size + 1 + 1, 1, none⟩ u1) w.heap.size #[.int .i64 0, .int .i64 0] 28) := Lib.hid fun v0 v1 u0 u1 => (((R0.out.other _ 0 v0 (by omega)).other _ 1 v1 (by omega)).other _ 0 u0 (by omega)).other _ 1 u1 (by omega)
      have XN : Hid (∀ v0 v1 u0 u1, Nx w ((((wr.setCell ⟨w.heap.size + 1, 0, none⟩ v0).setCell ⟨w.heap.size + 1, 1, none⟩ v1).setCell ⟨w.heap.size + 1 + 1, 0, none⟩ u0).setCell ⟨w.heap.size + 1 + 1, 1, none⟩ u1)) := Lib.hid fun v0 v1 u0 u1 => (((HN.out.setAt (i := 0) v0 (show w.heap.size ≤ w.heap.size + 1 by omega)).setAt (i := 1) v1 (show w.heap.size ≤ w.heap.size + 1 by omega)).setAt (i := 0) u0 (show w.heap.size ≤ w.heap.size + 1 + 1 by omega)).setAt (i := 1) u1 (show w.heap.size ≤ w.heap.size + 1 + 1 by omega)
      have Y1 : Hid (∀ u0 u1, Row ((wr.setCell ⟨w.heap.size + 1 + 1, 0, none⟩ u0).setCell ⟨w.heap.size + 1 + 1, 1, none⟩ u1) (w.heap.size + 1) #[.int .i64 A, .int .i64 B] 28) := Lib.hid fun u0 u1 => (R1.other _ 0 u0 (by omega)).other _ 1 u1 (by omega)
      have Y2 : Hid (∀ u0 u1, Row ((wr.setCell ⟨w.heap.size + 1 + 1, 0, none⟩ u0).setCell ⟨w.heap.size + 1 + 1, 1, none⟩ u1) (w.heap.size + 1 + 1) #[u0, u1] 28) := Lib.hid fun u0 u1 => (R2.set 0 u0).set 1 u1
      have Y0 : Hid (∀ u0 u1, Row ((wr.setCell ⟨w.heap.size + 1 + 1, 0, none⟩ u0).setCell ⟨w.heap.size + 1 + 1, 1, none⟩ u1) w.heap.size #[.int .i64 0, .int .i64 0] 28) := Lib.hid fun u0 u1 => (R0.out.other _ 0 u0 (by omega)).other _ 1 u1 (by omega)
      have YN : Hid (∀ u0 u1, Nx w ((wr.setCell ⟨w.heap.size + 1 + 1, 0, none⟩ u0).setCell ⟨w.heap.size + 1 + 1, 1, none⟩ u1)) := Lib.hid fun u0 u1 => (HN.out.setAt (i := 0) u0 (show w.heap.size ≤ w.heap.size + 1 + 1 by omega)).setAt (i := 1) u1 (show w.heap.size ≤ w.heap.size + 1 + 1 by omega)
      have hm1 : Hid (m ≤ 1099511627776) := Lib.hid (by have := hm.out; have := hn40.out; omega)
      have hm2 : Hid (m / 2 ≤ n) := Lib.hid (by have := hm.out; omega)
      have q0 : (0 : Int) ≤ (m : Int) := by omega
      replace hm := Lib.hid hm
      have W1 := Lib.hid w1
      have W2 := Lib.hid w2
      clear b1 b2 b3 b4 hlt hi HJ
      by_cases ho : m % 2 = 1
      · have HO := Lib.hid (s1 ho)
        have hod : (m : Int) % 2 = 1 := by omega
        clear s1 s2 ho
        go_wp2_with fail
        go_roundw
        case rel => exact ⟨i + 1, m / 2, A + C, B + D, -C - D, C - D, by rw [u64w m (by have := hm1.out; omega)], by go_num, HI.out, hm2, HO, Lib.hid (XN.out _ _ _ _), Lib.hid (X0.out _ _ _ _), X1.out _ _ _ _, X2.out _ _ _ _⟩
        case measure => have := HI.out; simp [intOf]; omega
      · have ho2 : m % 2 = 0 := by omega
        have HO := Lib.hid (s2 ho2)
        have hod : (m : Int) % 2 = 0 := by omega
        clear s1 s2 ho ho2
        go_wp2_with fail
        go_roundw
        case rel => exact ⟨i + 1, m / 2, A, B, -C - D, C - D, by rw [u64w m (by have := hm1.out; omega)], by go_num, HI.out, hm2, HO, Lib.hid (YN.out _ _), Lib.hid (Y0.out _ _), Y1.out _ _, Y2.out _ _⟩
        case measure => have := HI.out; simp [intOf]; omega
    · obtain rfl : i = 40 := by omega
      obtain ⟨e1, e2⟩ := ofR_end HJ.out
      rw [e1, e2] at R1
      clear HJ e1 e2 hlt hi a0 a1 c0 c1
      have z0 := R0.out.cell (i := 0) (v := .int .i64 0) rfl
      have z1 := R0.out.cell (i := 1) (v := .int .i64 0) rfl
      have y0 := R0.out.frozen 0
      have y1 := R0.out.frozen 1
      go_wp2_with (refine wpList_load_row rfl 28 (.tmp 4) rfl (w.heap.size + 1) rfl 28 #[.int .i64 (plA n), .int .i64 (plI n)] (0, 0) _ R1 Try.underlying28 rfl cz.out ?_)
      exact bodyPost_ret (results_row_tmp Try.results15 _ _ w.heap.size 28 #[.int .i64 (plA n), .int .i64 (plI n)] (0, 0) _ rfl ((R0.out.set 0 _).set 1 _) Try.underlying28 rfl cz.out) rfl ⟨rfl, (HN.out.setAt (i := 0) _ (Nat.le_refl _)).setAt (i := 1) _ (Nat.le_refl _)⟩
set_option maxRecDepth 100000 in
set_option maxHeartbeats 4000000 in
theorem rof_far (n : Nat) (h : ¬ n < 2 ^ 40) (hn : n < 18446744073709551616) (w : World) : Calls Try.prog 15 #[.int .u64 (n : Int)] w fun e w' => e = .returned (.tuple #[.agg #[.int .i64 0, .int .i64 0], .int .i64 3]) ∧ Nx w w' := by
  have h1 : decide ((1099511627776 : Int) ≤ (n : Int)) = true := by rw [decide_eq_true_iff]; omega
  have cz := Lib.hid info_spot
  have R0 := Row.new w #[.int .i64 0, .int .i64 0] 28 _ rfl
  have N0 := Lib.hid ((Nx.refl w).alloc (.cells #[.int .i64 0, .int .i64 0] 28))
  clear h hn
  go_enter Try.func15, Try.ntmps15
  go_wp2_with fail
  exact bodyPost_ret (results_row_tmp Try.results15 _ _ w.heap.size 28 #[.int .i64 0, .int .i64 0] (0, 0) _ rfl R0 Try.underlying28 rfl cz.out) rfl ⟨rfl, N0.out⟩
end Go.Proofs.Ytdbokmhkgkgnfaa
