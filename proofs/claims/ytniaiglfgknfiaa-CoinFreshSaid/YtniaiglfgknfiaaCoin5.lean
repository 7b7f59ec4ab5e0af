/- CONTRACTS OF LAYER 6: Read. -/
import Derived.Test.YtniaiglfgknfiaaCoin4
namespace Go.Proofs.Ytniaiglfgknfiaa
open Go Go.RowKit
set_option linter.unusedVariables false
set_option linter.unusedSimpArgs false

theorem gcT_x (l : List UInt8) (at_ : Int) : (gcT l at_).x.length = 32 := by
  unfold gcT
  split
  · exact Z32_length
  split
  · exact Z32_length
  split
  · exact Z32_length
  split
  · exact Z32_length
  · exact gpX_length _ _
/-- What Read answers. -/
def rdT (l : List UInt8) : GC := if (gcT l 0).e ≠ 0 then .bad (gcT l 0).e else if (gcT l 0).p ≠ (l.length : Int) then .bad 5 else gcT l 0
theorem results_cell_row2 {P : Program} {fn : Func} {p u : Tmp} {ty : TypeId} (h : fn.results = #[.cell p ty, .tmp u]) (tmps : Array Value) (w : World) (g : Nat) (t : TypeId) (cs : Array Value) (fr : Nat × Nat) (d : TypeDesc)
    (hp : tmps.getD p undef = .pointer (some ⟨g, 0, none⟩)) (hg : w.heap[g]? = some (.cells cs t fr))
    (hu : P.underlying ty = some d) (hd : (match d with | .struct _ | .array _ _ => true | _ => false) = true) (hi : (P.info? ty).map (·.size) = some cs.size) :
    (results fn tmps).run P w = .ok (.tuple #[.agg cs, tmps.getD u undef]) w := by
  have hp' : tmps[p]?.getD undef = .pointer (some ⟨g, 0, none⟩) := by simpa using hp
  simp [results, h, hp', asAddr, run_loadVar_row w g t ty cs fr d hg hu hd hi, Sem.run_bind, Result.andThen]

set_option maxRecDepth 100000 in
set_option maxHeartbeats 8000000 in
theorem read_coin_any (v : Value) (l : List UInt8) (w : World) (h : Rd w v l) (hr : l.length ≤ 140737488355328) :
    Calls Try.prog 23 #[v] w fun e w' => ∃ lk, e = .returned (.tuple #[.agg (ccel (rdT l).x (rdT l).n (rdT l).h (rdT l).v (rdT l).b lk), .int .i64 (rdT l).e]) ∧ Own w.heap.size w' lk (rdT l).lk ∧ Nx w w' := by
  have HP := Lib.hid (fun w h => get_coin_any v l 0 w h hr)
  have HRD := Lib.hid (fun w' (n : Nx w w') => h.nx n)
  have HZL := Lib.hid Z32_length
  have HXL := Lib.hid (gcT_x l 0)
  obtain ⟨hz2, hzs2⟩ := zero_of_info info_coin
  obtain ⟨A, c, rfl, -⟩ := h
  have hl : w.heap.size ≤ w.heap.size := Nat.le_refl _
  have R40 := Row.new w (ccel Z32 0 0 0 false (.slice none 0 0)) 31 _ rfl
  have N40 := Lib.hid ((Nx.refl w).alloc (.cells (ccel Z32 0 0 0 false (.slice none 0 0)) 31))
  have HLL := Lib.hid (show (l.length : Int) ≤ 9223372036854775807 by omega)
  unfold rdT
  generalize gcT l 0 = G at *
  obtain ⟨X, N, H, V, B, L, P0, E0⟩ := G
  dsimp only at *
  have cz := Lib.hid (coinsz Z32 0 0 0 false (.slice none 0 0) HZL.out)
  by_cases hE : E0 = 0
  · subst hE
    rw [if_neg (by simp)]
    by_cases hP : P0 = (l.length : Int)
    · rw [if_neg (by simpa using hP)]
      subst hP
      go_enter Try.func23, Try.ntmps23
      go_wp2_with fail
      refine (HP.out _ (HRD.out _ N40.out)).mono ?_
      rintro e w1 ⟨v1, rfl, o1, n1⟩
      have R41 := R40.nx n1
      have N1 := Lib.hid (N40.out.trans n1)
      have hne : w.heap.size ≠ w1.heap.size := Nat.ne_of_lt R41.lt
      have hs1 := N1.out.size
      obtain ⟨A3, c3, rfl, -⟩ := o1.rd
      have RP := Row.new w1 (ccel Z32 0 0 0 false (.slice none 0 0)) 31 _ rfl
      have RP2 := RP.setRow (ccel X N H V B (.slice A3 L.length c3))
      have NN : Nx w1 ((w1.alloc (.cells (ccel Z32 0 0 0 false (.slice none 0 0)) 31)).setRow w1.heap.size (ccel X N H V B (.slice A3 L.length c3))) := ((Nx.refl w1).alloc _).setRow _ (Nat.le_refl _)
      have R4 := R41.nx NN
      have hlt : w.heap.size < (w.alloc (.cells (ccel Z32 0 0 0 false (.slice none 0 0)) 31)).heap.size := by simp
      have O2 := Lib.hid (((o1.nx NN).setRow_lt (k := w.heap.size) (ccel X N H V B (.slice A3 L.length c3)) hlt).mono (Nat.le_of_lt hlt))
      have N2 := Lib.hid (N1.out.trans NN)
      have cx := Lib.hid (coinsz X N H V B (.slice A3 L.length c3) HXL.out)
      have dx : Hid ((ccel Z32 0 0 0 false (.slice none 0 0)).size = (ccel X N H V B (.slice A3 L.length c3)).size) := Lib.hid (by rw [ccel_size _ _ _ _ _ _ HXL.out, ccel_size _ _ _ _ _ _ HZL.out])
      clear o1 n1 NN hlt hne hs1 R41
      go_wp2_with (first | (refine wpList_store_row rfl 31 (.tmp 4) (.tmp 10) rfl w1.heap.size (ccel X N H V B (.slice A3 L.length c3)) rfl rfl 31 (ccel Z32 0 0 0 false (.slice none 0 0)) RP cx.out dx.out (ccel_one _ _ _ _ _ _ _ _) ?_) | (refine wpList_load_row rfl 31 (.tmp 4) rfl w1.heap.size rfl 31 (ccel X N H V B (.slice A3 L.length c3)) (0, 0) _ RP2 Try.underlying31 rfl cx.out ?_) | (refine wpList_store_row rfl 31 (.tmp 2) (.tmp 22) rfl w.heap.size (ccel X N H V B (.slice A3 L.length c3)) rfl rfl 31 (ccel Z32 0 0 0 false (.slice none 0 0)) R4 cx.out dx.out (ccel_one _ _ _ _ _ _ _ _) ?_))
      exact bodyPost_ret (results_cell_row2 Try.results23 _ _ w.heap.size 31 (ccel X N H V B (.slice A3 L.length c3)) (0, 0) _ rfl (R4.setRow _) Try.underlying31 rfl cx.out) rfl ⟨_, rfl, O2.out, N2.out.setRow _ hl⟩
    · rw [if_pos hP]
      unfold GC.bad
      have dP : (P0 != (l.length : Int)) = true := by simp [hP]
      clear hP
      go_enter Try.func23, Try.ntmps23
      go_wp2_with fail
      refine (HP.out _ (HRD.out _ N40.out)).mono ?_
      rintro e w1 ⟨v1, rfl, o1, n1⟩
      have R41 := R40.nx n1
      have N1 := Lib.hid (N40.out.trans n1)
      obtain ⟨A3, c3, rfl, -⟩ := o1.rd
      have RP := Row.new w1 (ccel Z32 0 0 0 false (.slice none 0 0)) 31 _ rfl
      have NN : Nx w1 ((w1.alloc (.cells (ccel Z32 0 0 0 false (.slice none 0 0)) 31)).setRow w1.heap.size (ccel X N H V B (.slice A3 L.length c3))) := ((Nx.refl w1).alloc _).setRow _ (Nat.le_refl _)
      have R4 := R41.nx NN
      have N2 := Lib.hid (N1.out.trans NN)
      have cx := Lib.hid (coinsz X N H V B (.slice A3 L.length c3) HXL.out)
      have dx : Hid ((ccel Z32 0 0 0 false (.slice none 0 0)).size = (ccel X N H V B (.slice A3 L.length c3)).size) := Lib.hid (by rw [ccel_size _ _ _ _ _ _ HXL.out, ccel_size _ _ _ _ _ _ HZL.out])
      clear o1 n1 NN R41
      go_wp2_with (first | (refine wpList_store_row rfl 31 (.tmp 4) (.tmp 10) rfl w1.heap.size (ccel X N H V B (.slice A3 L.length c3)) rfl rfl 31 (ccel Z32 0 0 0 false (.slice none 0 0)) RP cx.out dx.out (ccel_one _ _ _ _ _ _ _ _) ?_) | (refine wpList_store_row rfl 31 (.tmp 2) (.tmp 21) rfl w.heap.size (ccel Z32 0 0 0 false (.slice none 0 0)) rfl rfl 31 (ccel Z32 0 0 0 false (.slice none 0 0)) R4 cz.out rfl (ccel_one _ _ _ _ _ _ _ _) ?_))
      exact bodyPost_ret (results_cell_row2 Try.results23 _ _ w.heap.size 31 (ccel Z32 0 0 0 false (.slice none 0 0)) (0, 0) _ rfl (R4.setRow _) Try.underlying31 rfl cz.out) rfl ⟨_, rfl, Own.nil _ _, N2.out.setRow _ hl⟩
  · rw [if_pos hE]
    unfold GC.bad
    have dE : (E0 != 0) = true := by simp [hE]
    clear hE
    go_enter Try.func23, Try.ntmps23
    go_wp2_with fail
    refine (HP.out _ (HRD.out _ N40.out)).mono ?_
    rintro e w1 ⟨v1, rfl, o1, n1⟩
    have R41 := R40.nx n1
    have N1 := Lib.hid (N40.out.trans n1)
    obtain ⟨A3, c3, rfl, -⟩ := o1.rd
    have RP := Row.new w1 (ccel Z32 0 0 0 false (.slice none 0 0)) 31 _ rfl
    have NN : Nx w1 ((w1.alloc (.cells (ccel Z32 0 0 0 false (.slice none 0 0)) 31)).setRow w1.heap.size (ccel X N H V B (.slice A3 L.length c3))) := ((Nx.refl w1).alloc _).setRow _ (Nat.le_refl _)
    have R4 := R41.nx NN
    have N2 := Lib.hid (N1.out.trans NN)
    have cx := Lib.hid (coinsz X N H V B (.slice A3 L.length c3) HXL.out)
    have dx : Hid ((ccel Z32 0 0 0 false (.slice none 0 0)).size = (ccel X N H V B (.slice A3 L.length c3)).size) := Lib.hid (by rw [ccel_size _ _ _ _ _ _ HXL.out, ccel_size _ _ _ _ _ _ HZL.out])
    clear o1 n1 NN R41
    go_wp2_with (first | (refine wpList_store_row rfl 31 (.tmp 4) (.tmp 10) rfl w1.heap.size (ccel X N H V B (.slice A3 L.length c3)) rfl rfl 31 (ccel Z32 0 0 0 false (.slice none 0 0)) RP cx.out dx.out (ccel_one _ _ _ _ _ _ _ _) ?_) | (refine wpList_store_row rfl 31 (.tmp 2) (.tmp 15) rfl w.heap.size (ccel Z32 0 0 0 false (.slice none 0 0)) rfl rfl 31 (ccel Z32 0 0 0 false (.slice none 0 0)) R4 cz.out rfl (ccel_one _ _ _ _ _ _ _ _) ?_))
    exact bodyPost_ret (results_cell_row2 Try.results23 _ _ w.heap.size 31 (ccel Z32 0 0 0 false (.slice none 0 0)) (0, 0) _ rfl (R4.setRow _) Try.underlying31 rfl cz.out) rfl ⟨_, rfl, Own.nil _ _, N2.out.setRow _ hl⟩
end Go.Proofs.Ytniaiglfgknfiaa
