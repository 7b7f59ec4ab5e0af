/- LAYER 8: what the laws of layer 8 ask for besides. -/
import Derived.Test.YtjbeemoobmagnaaDoorHead7
namespace Go.Proofs.YtjbeemoobmagnaaDoor
open Go Go.RowKit
set_option linter.unusedVariables false
set_option linter.unusedSimpArgs false
set_option linter.unusedVariables false
set_option linter.unusedSimpArgs false

/-- What the laws of layer 8 ask for besides. -/
theorem zeros_hr75 : hrT (zeros 75) = .bad 4 := by kernel_rfl
theorem zeros_hr77 : hrT (zeros 77) = .bad 5 := by kernel_rfl
set_option maxRecDepth 100000 in
set_option maxHeartbeats 8000000 in
theorem hwork_any (w : World) : Calls Tryd.prog 24 #[] w fun e w' => e = .returned (.bool true) ∧ Nx w w' := by
  have hmk1 : ∀ w, (Instr.makeSlice 34 (.int .i64 75) (.int .i64 75)).run Tryd.prog w = .ok (.slice (some ⟨w.heap.size, 0, none⟩) 75 75) (w.alloc (.cells (zer 75) 5)) := fun w => run_mk (P := Tryd.prog) 34 Tryd.underlying34 info_u8 .i64 .i64 75 (by omega) w
  have hmk2 : ∀ w, (Instr.makeSlice 34 (.int .i64 77) (.int .i64 77)).run Tryd.prog w = .ok (.slice (some ⟨w.heap.size, 0, none⟩) 77 77) (w.alloc (.cells (zer 77) 5)) := fun w => run_mk (P := Tryd.prog) 34 Tryd.underlying34 info_u8 .i64 .i64 77 (by omega) w
  obtain ⟨hz2, hzs2⟩ := zero_of_info info_head
  have cz := Lib.hid (headsz Z32 Z32 0 0 0 Z32_length Z32_length)
  have cy := Lib.hid (headsz Z32 Z32 0 545259519 0 Z32_length Z32_length)
  have HOZ : HOk Z32 Z32 0 0 0 := ⟨Z32_length, Z32_length, by decide, by decide, by decide⟩
  have H1 : Hid (∀ W v, Rd W v (zeros 75) → Calls Tryd.prog 27 #[v] W fun e w' => e = .returned (.tuple #[.agg (hdc Z32 Z32 0 0 0), .int .i64 4]) ∧ Nx W w') := Lib.hid fun W v h => by
    have := hread_any v (zeros 75) W h (by rw [zeros_length]; decide)
    rw [zeros_hr75] at this
    exact this
  have H2 : Hid (∀ W v, Rd W v (zeros 77) → Calls Tryd.prog 27 #[v] W fun e w' => e = .returned (.tuple #[.agg (hdc Z32 Z32 0 0 0), .int .i64 5]) ∧ Nx W w') := Lib.hid fun W v h => by
    have := hread_any v (zeros 77) W h (by rw [zeros_length]; decide)
    rw [zeros_hr77] at this
    exact this
  have H3 := Lib.hid (fun w => hmine_bad Z32 Z32 0 0 0 5 HOZ (by decide) w)
  have H4 := Lib.hid (fun w => hput_any Z32 Z32 0 0 0 HOZ.p HOZ.r HOZ.t HOZ.b HOZ.n w)
  have HL4 := Lib.hid (hdB_length Z32 Z32 0 0 0 HOZ.p HOZ.r)
  have HEQ : Hid (∀ w : World, (Op.equalIn 10000 32 (.agg (hdc Z32 Z32 0 545259519 0)) (.agg (hdc Z32 Z32 0 545259519 0))).run Tryd.prog w = .ok true w) := Lib.hid fun w => (eq_head Z32 Z32 Z32 Z32 0 545259519 0 0 545259519 0 HOZ.p HOZ.r HOZ.p HOZ.r w).trans (by simp)
  generalize hdB Z32 Z32 0 0 0 = L4 at *
  clear HOZ
  go_enter Tryd.func24, Tryd.ntmps24
  go_wp2_with fail
  have RB1 := (Own.made w 75 (by simp [maxLen])).rd
  have N1 := Lib.hid ((Nx.refl w).alloc (.cells (zer 75) 5))
  refine (H1.out _ _ RB1).mono ?_
  rintro e w1 ⟨rfl, n1⟩
  have Z1 := Row.new w1 (hdc Z32 Z32 0 0 0) 32 _ rfl
  have N2 := Lib.hid ((N1.out.trans n1).trans (((Nx.refl w1).alloc (.cells (hdc Z32 Z32 0 0 0) 32)).setRow (g := w1.heap.size) (hdc Z32 Z32 0 0 0) (Nat.le_refl _)))
  clear RB1 n1 N1 hmk1
  go_wp2_with (first | (refine wpList_store_row rfl 32 (.tmp 1) (.tmp 10) rfl w1.heap.size (hdc Z32 Z32 0 0 0) rfl rfl 32 (hdc Z32 Z32 0 0 0) Z1 cz.out rfl (hd_one _ _ _ _ _) ?_))
  have HS1 : Hid (((w1.alloc (.cells (hdc Z32 Z32 0 0 0) 32)).setRow w1.heap.size (hdc Z32 Z32 0 0 0)).heap.size = w1.heap.size + 1) := Lib.hid (by simp)
  generalize ((w1.alloc (.cells (hdc Z32 Z32 0 0 0) 32)).setRow w1.heap.size (hdc Z32 Z32 0 0 0)) = V1 at *
  have RB2 := (Own.made V1 77 (by simp [maxLen])).rd
  rw [HS1.out] at RB2
  have N3 := Lib.hid (N2.out.alloc (.cells (zer 77) 5))
  clear Z1
  refine (H2.out _ _ RB2).mono ?_
  rintro e w2 ⟨rfl, n2⟩
  have Z2 := Row.new w2 (hdc Z32 Z32 0 0 0) 32 _ rfl
  have N4 := Lib.hid ((N3.out.trans n2).trans (((Nx.refl w2).alloc (.cells (hdc Z32 Z32 0 0 0) 32)).setRow (g := w2.heap.size) (hdc Z32 Z32 0 0 0) (Nat.le_refl _)))
  clear RB2 n2 N3 N2 hmk2
  go_wp2_with (first | (refine wpList_store_row rfl 32 (.tmp 3) (.tmp 15) rfl w2.heap.size (hdc Z32 Z32 0 0 0) rfl rfl 32 (hdc Z32 Z32 0 0 0) Z2 cz.out rfl (hd_one _ _ _ _ _) ?_) | (refine wpList_val (some 18) rfl rfl (.agg (hdc Z32 Z32 0 0 0)) ?_ ?_; (focus kernel_rfl)))
  refine (H3.out _).mono ?_
  rintro e w3 ⟨rfl, n3⟩
  have Z3 := Row.new w3 (hdc Z32 Z32 0 0 0) 32 _ rfl
  have N5 := Lib.hid ((N4.out.trans n3).trans (((Nx.refl w3).alloc (.cells (hdc Z32 Z32 0 0 0) 32)).setRow (g := w3.heap.size) (hdc Z32 Z32 0 0 0) (Nat.le_refl _)))
  clear n3 Z2 N4
  go_wp2_with (first | (refine wpList_store_row rfl 32 (.tmp 5) (.tmp 20) rfl w3.heap.size (hdc Z32 Z32 0 0 0) rfl rfl 32 (hdc Z32 Z32 0 0 0) Z3 cz.out rfl (hd_one _ _ _ _ _) ?_) | (refine wpList_val (some 22) rfl rfl (.agg (hdc Z32 Z32 0 0 0)) ?_ ?_; (focus kernel_rfl)))
  refine (H4.out _).mono ?_
  rintro e w4 ⟨v4, rfl, o4, n4⟩
  have N6 := Lib.hid (N5.out.trans n4)
  obtain ⟨A4, c4, rfl, -, -, -⟩ := o4.rd
  have hl4 : ((L4.length : Int) == 76) = true := by rw [HL4.out]; rfl
  clear n4 o4 Z3 N5
  go_wp2_with fail
  refine (hbegin_any _).mono ?_
  rintro e w5 ⟨rfl, n5⟩
  have N7 := Lib.hid (N6.out.trans n5)
  clear n5 N6
  go_wp2_with (first | (refine wpList_g (by rfl) fun K hK => ?_; first | (refine wp_val_of (some 40) rfl (.agg (hdc Z32 Z32 0 545259519 0)) (by kernel_rfl) (hK _ _ ?_)) | (refine wp_eql_of (some 41) rfl 32 _ _ _ rfl (hdc Z32 Z32 0 545259519 0) (hdc Z32 Z32 0 545259519 0) rfl rfl (by kernel_rfl) true (HEQ.out _) (hK _ _ ?_))))
  go_ret
  exact ⟨rfl, N7.out⟩
end Go.Proofs.YtjbeemoobmagnaaDoor
