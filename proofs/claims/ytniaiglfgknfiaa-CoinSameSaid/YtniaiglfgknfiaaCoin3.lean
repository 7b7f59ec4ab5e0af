/- CONTRACTS OF LAYER 6: GetOut, Get. -/
import Derived.Test.YtniaiglfgknfiaaCoin2
namespace Go.Proofs.Ytniaiglfgknfiaa
open Go Go.RowKit
set_option linter.unusedVariables false
set_option linter.unusedSimpArgs false

theorem Own.setRow_lt {B k : Nat} {w : World} {v : Value} {l : List UInt8} (h : Own B w v l) (cs : Array Value) (hk : k < B) : Own B (w.setRow k cs) v l := by
  rcases h with h2 | ⟨g, full, rfl, hb, hg, rest⟩
  · exact .inl h2
  · exact .inr ⟨g, full, rfl, hb, by rw [Go.setRow_other _ _ _ _ (by omega)]; exact hg, rest⟩
theorem wpList_built {P : Program} {ops : Array Oper} {rest : List Oper} {o : Oper} {a : Act} {w : World} {Q : Exit → Act → World → Prop} (dst : Option Tmp) (hds : o.dst = dst) (hg : o.guard = none) (t : TypeId) (parts : Array (Nat × Operand)) (ho : o.op = .build t parts)
    (L : List (Nat × Value)) (hp : (parts.map fun (i, x) => (i, a.eval x)).toList = L) (cs : Array Value) (hb : P.built t L = some cs)
    (h : wpList P ops Q rest (a.put dst (.agg cs)) w) : wpList P ops Q (o :: rest) a w := by
  subst hds hp
  refine wpList_build hg t parts ho (by rw [hb]; rfl) ?_
  rw [hb]
  exact h

theorem info_out : (Try.prog.info? 33).map (fun i => (i.zero, i.size)) = some (some (.agg #[.int .u64 0, .slice none 0 0]), 2) := by kernel_rfl
theorem info_coin : (Try.prog.info? 31).map (fun i => (i.zero, i.size)) = some (some (.agg (ccel Z32 0 0 0 false (.slice none 0 0))), 37) := by kernel_rfl
theorem built_out (v : Nat) (A : Option Addr) (n c : Nat) : Try.prog.built 33 [(0, .int .u64 (v : Int)), (1, .slice A n c)] = some #[.int .u64 (v : Int), .slice A n c] := by kernel_rfl
theorem ocel_one (v : Int) (A : Option Addr) (n c : Nat) : (#[.int .u64 v, .slice A n c] : Array Value).all (·.oneCell') = true := by kernel_rfl
theorem coinsz (tx : List UInt8) (n h v : Nat) (b : Bool) (lk : Value) (ht : tx.length = 32) : (Try.prog.info? 31).map (·.size) = some (ccel tx n h v b lk).size := by
  rw [ccel_size tx n h v b lk ht]; kernel_rfl
theorem ccel_one (tx : List UInt8) (n h v : Nat) (b : Bool) (A : Option Addr) (k c : Nat) : (ccel tx n h v b (.slice A k c)).all (·.oneCell') = true := by
  rw [Array.all_eq_true']
  intro x hx
  simp only [ccel, pcl, List.mem_toArray, List.mem_append, List.mem_cons, List.not_mem_nil, or_false] at hx
  rcases hx with (h | rfl | rfl) | rfl | rfl | rfl
  · exact bvs_one tx x h
  all_goals rfl

theorem built_coin0 (x0 x1 x2 x3 x4 x5 x6 x7 x8 x9 x10 x11 x12 x13 x14 x15 x16 x17 x18 x19 x20 x21 x22 x23 x24 x25 x26 x27 x28 x29 x30 x31 : UInt8) (n h v : Nat) (b : Bool) (A : Option Addr) (k c : Nat) :
    Try.prog.built 31 [(0, .agg (pcel [x0, x1, x2, x3, x4, x5, x6, x7, x8, x9, x10, x11, x12, x13, x14, x15, x16, x17, x18, x19, x20, x21, x22, x23, x24, x25, x26, x27, x28, x29, x30, x31] n h)), (1, .int .u64 (v : Int)), (2, .bool b), (3, .slice A k c)] = some (ccel [x0, x1, x2, x3, x4, x5, x6, x7, x8, x9, x10, x11, x12, x13, x14, x15, x16, x17, x18, x19, x20, x21, x22, x23, x24, x25, x26, x27, x28, x29, x30, x31] n h v b (.slice A k c)) := by kernel_rfl
theorem list32 (l : List UInt8) (h : l.length = 32) : ∃ x0 x1 x2 x3 x4 x5 x6 x7 x8 x9 x10 x11 x12 x13 x14 x15 x16 x17 x18 x19 x20 x21 x22 x23 x24 x25 x26 x27 x28 x29 x30 x31 : UInt8, l = [x0, x1, x2, x3, x4, x5, x6, x7, x8, x9, x10, x11, x12, x13, x14, x15, x16, x17, x18, x19, x20, x21, x22, x23, x24, x25, x26, x27, x28, x29, x30, x31] := by
  rcases l with _ | ⟨x0, l⟩
  · simp at h
  rcases l with _ | ⟨x1, l⟩
  · simp at h
  rcases l with _ | ⟨x2, l⟩
  · simp at h
  rcases l with _ | ⟨x3, l⟩
  · simp at h
  rcases l with _ | ⟨x4, l⟩
  · simp at h
  rcases l with _ | ⟨x5, l⟩
  · simp at h
  rcases l with _ | ⟨x6, l⟩
  · simp at h
  rcases l with _ | ⟨x7, l⟩
  · simp at h
  rcases l with _ | ⟨x8, l⟩
  · simp at h
  rcases l with _ | ⟨x9, l⟩
  · simp at h
  rcases l with _ | ⟨x10, l⟩
  · simp at h
  rcases l with _ | ⟨x11, l⟩
  · simp at h
  rcases l with _ | ⟨x12, l⟩
  · simp at h
  rcases l with _ | ⟨x13, l⟩
  · simp at h
  rcases l with _ | ⟨x14, l⟩
  · simp at h
  rcases l with _ | ⟨x15, l⟩
  · simp at h
  rcases l with _ | ⟨x16, l⟩
  · simp at h
  rcases l with _ | ⟨x17, l⟩
  · simp at h
  rcases l with _ | ⟨x18, l⟩
  · simp at h
  rcases l with _ | ⟨x19, l⟩
  · simp at h
  rcases l with _ | ⟨x20, l⟩
  · simp at h
  rcases l with _ | ⟨x21, l⟩
  · simp at h
  rcases l with _ | ⟨x22, l⟩
  · simp at h
  rcases l with _ | ⟨x23, l⟩
  · simp at h
  rcases l with _ | ⟨x24, l⟩
  · simp at h
  rcases l with _ | ⟨x25, l⟩
  · simp at h
  rcases l with _ | ⟨x26, l⟩
  · simp at h
  rcases l with _ | ⟨x27, l⟩
  · simp at h
  rcases l with _ | ⟨x28, l⟩
  · simp at h
  rcases l with _ | ⟨x29, l⟩
  · simp at h
  rcases l with _ | ⟨x30, l⟩
  · simp at h
  rcases l with _ | ⟨x31, l⟩
  · simp at h
  rcases l with _ | ⟨y, l⟩
  · exact ⟨x0, x1, x2, x3, x4, x5, x6, x7, x8, x9, x10, x11, x12, x13, x14, x15, x16, x17, x18, x19, x20, x21, x22, x23, x24, x25, x26, x27, x28, x29, x30, x31, rfl⟩
  · simp at h
theorem built_coin (tx : List UInt8) (ht : tx.length = 32) (n h v : Nat) (b : Bool) (A : Option Addr) (k c : Nat) :
    Try.prog.built 31 [(0, .agg (pcel tx n h)), (1, .int .u64 (v : Int)), (2, .bool b), (3, .slice A k c)] = some (ccel tx n h v b (.slice A k c)) := by
  obtain ⟨x0, x1, x2, x3, x4, x5, x6, x7, x8, x9, x10, x11, x12, x13, x14, x15, x16, x17, x18, x19, x20, x21, x22, x23, x24, x25, x26, x27, x28, x29, x30, x31, rfl⟩ := list32 tx ht
  exact built_coin0 x0 x1 x2 x3 x4 x5 x6 x7 x8 x9 x10 x11 x12 x13 x14 x15 x16 x17 x18 x19 x20 x21 x22 x23 x24 x25 x26 x27 x28 x29 x30 x31 n h v b A k c

/-- What GetOut answers: worth, lock, place, error. -/
def goT (l : List UInt8) (at_ : Int) : Nat × List UInt8 × Int × Int :=
  if (gvT l at_).2.2 ≠ 0 then (0, [], 0, (gvT l at_).2.2)
  else if (gr l (gvT l at_).2.1 100).2.2 ≠ 0 then (0, [], 0, (gr l (gvT l at_).2.1 100).2.2)
  else ((gvT l at_).1, (gr l (gvT l at_).2.1 100).1, (gr l (gvT l at_).2.1 100).2.1, 0)

set_option maxRecDepth 100000 in
set_option maxHeartbeats 4000000 in
theorem getOut_any (v : Value) (l : List UInt8) (at_ : Int) (w : World) (h : Rd w v l) (hr : l.length ≤ 140737488355328) :
    Calls Try.prog 19 #[v, .int .i64 at_] w fun e w' => ∃ lk, e = .returned (.tuple #[.agg #[.int .u64 ((goT l at_).1 : Int), lk], .int .i64 (goT l at_).2.2.1, .int .i64 (goT l at_).2.2.2]) ∧ Own w.heap.size w' lk (goT l at_).2.1 ∧ Nx w w' := by
  have HV := Lib.hid (fun w h => getValue_any v l at_ w h hr)
  have HW := Lib.hid (fun w h => getRow_any v l (gvT l at_).2.1 100 w h hr (by decide))
  have HR := Lib.hid h
  obtain ⟨hz, hzs⟩ := zero_of_info info_out
  have io := Lib.hid hzs
  obtain ⟨A, c, rfl, -⟩ := h
  have hl : w.heap.size ≤ w.heap.size := Nat.le_refl _
  have R40 := Row.new w #[.int .u64 0, .slice none 0 0] 33 _ rfl
  have N40 := Lib.hid ((Nx.refl w).alloc (.cells #[.int .u64 0, .slice none 0 0] 33))
  unfold goT
  generalize (gvT l at_).1 = V at *
  generalize (gvT l at_).2.1 = P1 at *
  generalize (gvT l at_).2.2 = E1 at *
  generalize (gr l P1 100).1 = L at *
  generalize (gr l P1 100).2.1 = P2 at *
  generalize (gr l P1 100).2.2 = E2 at *
  by_cases hE1 : E1 = 0
  · subst hE1
    rw [if_neg (by simp)]
    by_cases hE2 : E2 = 0
    · subst hE2
      rw [if_neg (by simp)]
      go_enter Try.func19, Try.ntmps19
      go_wp2_with fail
      refine (HV.out _ (HR.out.alloc _)).mono ?_
      rintro e w1 ⟨rfl, rfl⟩
      go_wp2_with fail
      refine (HW.out _ (HR.out.alloc _)).mono ?_
      rintro e w1 ⟨v2, rfl, o1, n1⟩
      have R4 := R40.nx n1
      have N1 := Lib.hid (N40.out.trans n1)
      have O1 := Lib.hid (o1.setRow_lt (k := w.heap.size) #[.int .u64 (V : Int), v2] (by simp))
      obtain ⟨A2, c2, rfl, -⟩ := o1.rd
      clear o1 n1
      go_wp2_with (first | (refine wpList_built (some 34) rfl rfl 33 _ rfl [(0, .int .u64 (V : Int)), (1, .slice A2 L.length c2)] (by kernel_rfl) _ (built_out V A2 L.length c2) ?_) | (refine wpList_store_row rfl 33 (.tmp 4) (.tmp 34) rfl w.heap.size #[.int .u64 (V : Int), .slice A2 L.length c2] rfl rfl 33 #[.int .u64 0, .slice none 0 0] R4 io.out rfl (ocel_one _ _ _ _) ?_))
      exact bodyPost_ret (results_cell_row3 Try.results19 _ _ w.heap.size 33 #[.int .u64 (V : Int), .slice A2 L.length c2] (0, 0) _ rfl (R4.setRow _) Try.underlying33 rfl io.out) rfl ⟨_, rfl, O1.out.mono (by simp), N1.out.setRow _ hl⟩
    · rw [if_pos hE2]
      have dE : (E2 != 0) = true := by simp [hE2]
      clear hE2
      go_enter Try.func19, Try.ntmps19
      go_wp2_with fail
      refine (HV.out _ (HR.out.alloc _)).mono ?_
      rintro e w1 ⟨rfl, rfl⟩
      go_wp2_with fail
      refine (HW.out _ (HR.out.alloc _)).mono ?_
      rintro e w1 ⟨v2, rfl, o1, n1⟩
      have R4 := R40.nx n1
      have N1 := Lib.hid (N40.out.trans n1)
      clear o1 n1
      go_wp2_with (first | (refine wpList_store_row rfl 33 (.tmp 4) (.tmp 30) rfl w.heap.size #[.int .u64 0, .slice none 0 0] rfl rfl 33 #[.int .u64 0, .slice none 0 0] R4 io.out rfl (ocel_one _ _ _ _) ?_))
      exact bodyPost_ret (results_cell_row3 Try.results19 _ _ w.heap.size 33 #[.int .u64 0, .slice none 0 0] (0, 0) _ rfl (R4.setRow _) Try.underlying33 rfl io.out) rfl ⟨_, rfl, Own.nil _ _, N1.out.setRow _ hl⟩
  · rw [if_pos hE1]
    have dE : (E1 != 0) = true := by simp [hE1]
    clear hE1
    go_enter Try.func19, Try.ntmps19
    go_wp2_with fail
    refine (HV.out _ (HR.out.alloc _)).mono ?_
    rintro e w1 ⟨rfl, rfl⟩
    go_wp2_with (first | (refine wpList_store_row rfl 33 (.tmp 4) (.tmp 19) rfl w.heap.size #[.int .u64 0, .slice none 0 0] rfl rfl 33 #[.int .u64 0, .slice none 0 0] R40 io.out rfl (ocel_one _ _ _ _) ?_))
    exact bodyPost_ret (results_cell_row3 Try.results19 _ _ w.heap.size 33 #[.int .u64 0, .slice none 0 0] (0, 0) _ rfl (R40.setRow _) Try.underlying33 rfl io.out) rfl ⟨_, rfl, Own.nil _ _, N40.out.setRow _ hl⟩
end Go.Proofs.Ytniaiglfgknfiaa