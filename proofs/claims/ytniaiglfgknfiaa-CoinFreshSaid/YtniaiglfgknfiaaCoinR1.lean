/- THE DOCUMENT'S ANSWERS OF LAYER 6: GetOut. -/
import Derived.Test.YtniaiglfgknfiaaCoin9
namespace Go.Proofs.Ytniaiglfgknfiaa
open Go Go.RowKit
set_option linter.unusedVariables false
set_option linter.unusedSimpArgs false

theorem gv_cases (l : List UInt8) (at_ : Int) : (getE l.length at_ 8 ≠ 0 ∧ gvT l at_ = (0, 0, getE l.length at_ 8)) ∨
    (getE l.length at_ 8 = 0 ∧ ((1125899906842624 < getN l at_ 8 ∧ gvT l at_ = (0, 0, 5)) ∨ (¬ 1125899906842624 < getN l at_ 8 ∧ gvT l at_ = (getN l at_ 8, at_ + 8, 0)))) := by
  unfold gvT
  by_cases h1 : getE l.length at_ 8 = 0
  · right
    refine ⟨h1, ?_⟩
    rw [if_neg (by simpa using h1)]
    by_cases h2 : 1125899906842624 < getN l at_ 8
    · left; exact ⟨h2, if_pos h2⟩
    · right; exact ⟨h2, if_neg h2⟩
  · left
    exact ⟨h1, if_pos h1⟩
theorem gb_cases (l : List UInt8) (at_ : Int) : (getE l.length at_ 1 ≠ 0 ∧ gbT l at_ = (false, 0, getE l.length at_ 1)) ∨
    (getE l.length at_ 1 = 0 ∧ ((1 < getN l at_ 1 ∧ gbT l at_ = (false, 0, 5)) ∨ (¬ 1 < getN l at_ 1 ∧ gbT l at_ = (getN l at_ 1 == 1, at_ + 1, 0)))) := by
  unfold gbT
  by_cases h1 : getE l.length at_ 1 = 0
  · right
    refine ⟨h1, ?_⟩
    rw [if_neg (by simpa using h1)]
    by_cases h2 : 1 < getN l at_ 1
    · left; exact ⟨h2, if_pos h2⟩
    · right; exact ⟨h2, if_neg h2⟩
  · left
    exact ⟨h1, if_pos h1⟩
set_option maxRecDepth 100000 in
set_option maxHeartbeats 4000000 in
theorem rgetOut_any (v : Value) (l : List UInt8) (at_ : Int) (w : World) (h : Rd w v l) (hr : l.length ≤ 140737488355328) :
    Calls Try.prog 20 #[v, .int .i64 at_] w fun e w' => ∃ lk, e = .returned (.tuple #[.agg #[.int .u64 ((goT l at_).1 : Int), lk], .int .i64 (goT l at_).2.2.1, .int .i64 (goT l at_).2.2.2]) ∧ Own w.heap.size w' lk (goT l at_).2.1 ∧ Nx w w' := by
  have HV := Lib.hid (fun w h => refGet_any v l at_ 8 w h hr)
  have HW := Lib.hid (fun w h => refGetRow_any v l (at_ + 8) 100 w h hr (by decide))
  have HOK := Lib.hid (fun h => getE_ok (l := l) (at_ := at_) (s := 8) h)
  have HRD := Lib.hid (fun w' (n : Nx w w') => h.nx n)
  obtain ⟨hz, hzs⟩ := zero_of_info info_out
  have io := Lib.hid hzs
  obtain ⟨A, c, rfl, -⟩ := h
  have hl : w.heap.size ≤ w.heap.size := Nat.le_refl _
  have R40 := Row.new w #[.int .u64 0, .slice none 0 0] 33 _ rfl
  have N40 := Lib.hid ((Nx.refl w).alloc (.cells #[.int .u64 0, .slice none 0 0] 33))
  unfold goT
  rcases gv_cases l at_ with ⟨c1, c2⟩ | ⟨c1, ⟨c2, c3⟩ | ⟨c2, c3⟩⟩
  · rw [c2]
    rw [if_pos c1]
    clear c2
    generalize getE l.length at_ 8 = E at *
    generalize getN l at_ 8 = N at *
    have dE : (E != 0) = true := by simp [c1]
    clear c1
    go_enter Try.func20, Try.ntmps20
    go_wp2_with fail
    refine (HV.out _ (HRD.out _ N40.out)).mono ?_
    rintro e w1 ⟨rfl, n1⟩
    have R41 := R40.nx n1
    have N1 := Lib.hid (N40.out.trans n1)
    clear n1
    go_wp2_with (first | (refine wpList_store_row rfl 33 (.tmp 4) (.tmp 20) rfl w.heap.size #[.int .u64 0, .slice none 0 0] rfl rfl 33 #[.int .u64 0, .slice none 0 0] R41 io.out rfl (ocel_one _ _ _ _) ?_))
    exact bodyPost_ret (results_cell_row3 Try.results20 _ _ w.heap.size 33 #[.int .u64 0, .slice none 0 0] (0, 0) _ rfl (R41.setRow _) Try.underlying33 rfl io.out) rfl ⟨_, rfl, Own.nil _ _, N1.out.setRow _ hl⟩
  · rw [c3, if_pos (by decide)]
    rw [c1] at HV
    clear c3 c1
    generalize getN l at_ 8 = N at *
    have d1 : decide ((1125899906842624 : Int) < (N : Int)) = true := decide_eq_true (by omega)
    have d2 : decide (1125899906842624 < N) = true := decide_eq_true c2
    clear c2
    go_enter Try.func20, Try.ntmps20
    go_wp2_with fail
    refine (HV.out _ (HRD.out _ N40.out)).mono ?_
    rintro e w1 ⟨rfl, n1⟩
    have R41 := R40.nx n1
    have N1 := Lib.hid (N40.out.trans n1)
    clear n1
    go_wp2_with (first | (refine wpList_store_row rfl 33 (.tmp 4) (.tmp 24) rfl w.heap.size #[.int .u64 0, .slice none 0 0] rfl rfl 33 #[.int .u64 0, .slice none 0 0] R41 io.out rfl (ocel_one _ _ _ _) ?_))
    exact bodyPost_ret (results_cell_row3 Try.results20 _ _ w.heap.size 33 #[.int .u64 0, .slice none 0 0] (0, 0) _ rfl (R41.setRow _) Try.underlying33 rfl io.out) rfl ⟨_, rfl, Own.nil _ _, N1.out.setRow _ hl⟩
  · rw [c3, if_neg (by simp)]
    dsimp only
    obtain ⟨p1, p2, -⟩ := HOK.out c1
    have p3 : at_ + 8 ≤ 9223372036854775807 := by omega
    rw [c1] at HV
    clear c3 c1
    generalize getN l at_ 8 = N at *
    generalize (gr l (at_ + 8) 100).1 = L at *
    generalize (gr l (at_ + 8) 100).2.1 = P2 at *
    generalize (gr l (at_ + 8) 100).2.2 = E2 at *
    have d1 : decide ((1125899906842624 : Int) < (N : Int)) = false := decide_eq_false (by omega)
    have d2 : decide (1125899906842624 < N) = false := decide_eq_false c2
    clear c2
    by_cases hE2 : E2 = 0
    · subst hE2
      rw [if_neg (by simp)]
      go_enter Try.func20, Try.ntmps20
      go_wp2_with fail
      refine (HV.out _ (HRD.out _ N40.out)).mono ?_
      rintro e w1 ⟨rfl, n1⟩
      have R41 := R40.nx n1
      have N1 := Lib.hid (N40.out.trans n1)
      clear n1
      go_wp2_with fail
      refine (HW.out _ (HRD.out _ N1.out)).mono ?_
      rintro e w2 ⟨v2, rfl, o1, n2⟩
      have R4 := R41.nx n2
      have N2 := Lib.hid (N1.out.trans n2)
      have hlt := R41.lt
      have O1 := Lib.hid ((o1.setRow_lt (k := w.heap.size) #[.int .u64 (N : Int), v2] hlt).mono (Nat.le_of_lt hlt))
      obtain ⟨A2, c2, rfl, -⟩ := o1.rd
      clear o1 n2 hlt R41
      go_wp2_with (first | (refine wpList_built (some 39) rfl rfl 33 _ rfl [(0, .int .u64 (N : Int)), (1, .slice A2 L.length c2)] (by kernel_rfl) _ (built_out N A2 L.length c2) ?_) | (refine wpList_store_row rfl 33 (.tmp 4) (.tmp 39) rfl w.heap.size #[.int .u64 (N : Int), .slice A2 L.length c2] rfl rfl 33 #[.int .u64 0, .slice none 0 0] R4 io.out rfl (ocel_one _ _ _ _) ?_))
      exact bodyPost_ret (results_cell_row3 Try.results20 _ _ w.heap.size 33 #[.int .u64 (N : Int), .slice A2 L.length c2] (0, 0) _ rfl (R4.setRow _) Try.underlying33 rfl io.out) rfl ⟨_, rfl, O1.out, N2.out.setRow _ hl⟩
    · rw [if_pos hE2]
      have dE : (E2 != 0) = true := by simp [hE2]
      clear hE2
      go_enter Try.func20, Try.ntmps20
      go_wp2_with fail
      refine (HV.out _ (HRD.out _ N40.out)).mono ?_
      rintro e w1 ⟨rfl, n1⟩
      have R41 := R40.nx n1
      have N1 := Lib.hid (N40.out.trans n1)
      clear n1
      go_wp2_with fail
      refine (HW.out _ (HRD.out _ N1.out)).mono ?_
      rintro e w2 ⟨v2, rfl, o1, n2⟩
      have R4 := R41.nx n2
      have N2 := Lib.hid (N1.out.trans n2)
      clear o1 n2 R41
      go_wp2_with (first | (refine wpList_store_row rfl 33 (.tmp 4) (.tmp 35) rfl w.heap.size #[.int .u64 0, .slice none 0 0] rfl rfl 33 #[.int .u64 0, .slice none 0 0] R4 io.out rfl (ocel_one _ _ _ _) ?_))
      exact bodyPost_ret (results_cell_row3 Try.results20 _ _ w.heap.size 33 #[.int .u64 0, .slice none 0 0] (0, 0) _ rfl (R4.setRow _) Try.underlying33 rfl io.out) rfl ⟨_, rfl, Own.nil _ _, N2.out.setRow _ hl⟩
end Go.Proofs.Ytniaiglfgknfiaa