/- TEXTS OF OUR OWN, IN ONE FILE. -/
import Derived.Test.YtnbonmkecmgphaaDoorTs
section
namespace Go.Proofs.YtnbonmkecmgphaaDoor
open Go Go.RowKit
set_option linter.unusedVariables false
set_option linter.unusedSimpArgs false

theorem rdX_0 : rdX [] = (txZ, 4) := by kernel_rfl
theorem rdX_6 : rdX [0, 0, 0, 0, 0, 0] = (txZ, 0) := by kernel_rfl
theorem rdX_7 : rdX [0, 0, 0, 0, 0, 0, 0] = (txZ, 5) := by kernel_rfl
theorem rdX_17 : rdX [17] = (txZ, 3) := by kernel_rfl
end Go.Proofs.YtnbonmkecmgphaaDoor
end

section
namespace Go.Proofs.YtnbonmkecmgphaaDoor
open Go Go.RowKit
set_option linter.unusedVariables false
set_option linter.unusedSimpArgs false
set_option linter.unusedVariables false
set_option linter.unusedSimpArgs false

theorem info_hash7 : (Tryd.prog.info? 28).map (fun i => (i.zero, i.size)) = some (some (.agg (hcel Z32)), 32) := by kernel_rfl
theorem mayT_z : mayT txZ = true := by kernel_rfl
set_option maxRecDepth 100000 in
set_option maxHeartbeats 4000000 in
theorem tdigest_arg (cc : Array Value) (w : World) :
    Calls Tryd.prog 15 #[.agg #[.slice none 0 0, .slice none 0 0, .int .u32 0], .int .i64 0, .agg cc] w fun e w' => e = .returned (.tuple #[.agg (hcel Z32), .int .i64 2]) ∧ Nx w w' := by
  have HM := Lib.hid (fun w => txmay_any (.slice none 0 0) (.slice none 0 0) txZ w (txAt_z w))
  rw [mayT_z] at HM
  have HMM : Hid (∀ w, Calls Tryd.prog 18 #[.agg #[.slice none 0 0, .slice none 0 0, .int .u32 0]] w fun e w' => e = .returned (.bool true) ∧ Nx w w') := HM
  obtain ⟨hz, hzs⟩ := zero_of_info info_hash7
  have K0 := ((Row.new w #[.slice none 0 0, .slice none 0 0, .int .u32 0] 26 _ rfl).alloc (.cells cc 35)).alloc (.cells (hcel Z32) 28)
  have N0 := Lib.hid ((((Nx.refl w).alloc (.cells #[.slice none 0 0, .slice none 0 0, .int .u32 0] 26)).alloc (.cells cc 35)).alloc (.cells (hcel Z32) 28))
  have a0 := K0.cell (i := 0) (v := .slice none 0 0) rfl
  have a1 := K0.cell (i := 1) (v := .slice none 0 0) rfl
  have a2 := K0.cell (i := 2) (v := .int .u32 0) rfl
  go_enter Tryd.func15, Tryd.ntmps15
  go_wp2_with fail
  refine (HMM.out _).mono ?_
  rintro e w1 ⟨rfl, n1⟩
  have KX := K0.nx n1
  have RH := (Row.new ((w.alloc (.cells #[.slice none 0 0, .slice none 0 0, .int .u32 0] 26)).alloc (.cells cc 35)) (hcel Z32) 28 _ rfl).nx n1
  have hsz2 : ((w.alloc (.cells #[.slice none 0 0, .slice none 0 0, .int .u32 0] 26)).alloc (.cells cc 35)).heap.size = w.heap.size + 1 + 1 := by simp
  rw [hsz2] at RH
  have NN := Lib.hid (N0.out.trans n1)
  have hsz : (Tryd.prog.info? 28).map (·.size) = some (hcel Z32).size := by rw [hcel_size, Z32_length]; exact hzs
  have io := Lib.hid hsz
  clear a0 a1 a2 hsz hsz2 n1 N0
  have a0 := KX.cell (i := 0) (v := .slice none 0 0) rfl
  go_wp2_with (refine wpList_store_row rfl 28 (.tmp 6) (.tmp 26) rfl (w.heap.size + 1 + 1) (hcel Z32) rfl rfl 28 (hcel Z32) RH io.out rfl (hcel_one _) ?_)
  exact bodyPost_ret (results_cell_row2 Tryd.results15 _ _ (w.heap.size + 1 + 1) 28 (hcel Z32) (0, 0) _ rfl (RH.setRow _) Tryd.underlying28 rfl io.out) rfl ⟨rfl, NN.out.setRow _ (by omega)⟩
end Go.Proofs.YtnbonmkecmgphaaDoor
end

section
namespace Go.Proofs.YtnbonmkecmgphaaDoor
open Go Go.RowKit
set_option linter.unusedVariables false
set_option linter.unusedSimpArgs false
set_option linter.unusedVariables false
set_option linter.unusedSimpArgs false

theorem tread_z (l : List UInt8) (E : Int) (hE : rdX l = (txZ, E)) (hl : l.length ≤ 140737488355328) (W : World) (v : Value) (h : Rd W v l) :
    Calls Tryd.prog 22 #[v] W fun e w' => ∃ A c B d, e = .returned (.tuple #[.agg #[.slice A 0 c, .slice B 0 d, .int .u32 0], .int .i64 E]) ∧ TxAt w' (.slice A 0 c) (.slice B 0 d) txZ ∧ Nx W w' := by
  have := tread_any v l W h hl
  rw [hE] at this
  refine this.mono ?_
  rintro e w' ⟨iv, ov, rfl, h1, h2⟩
  obtain ⟨A, c, rfl⟩ := h1.i.sl
  obtain ⟨B, d, rfl⟩ := h1.o.sl
  exact ⟨A, c, B, d, rfl, h1.at, h2⟩
theorem tput_z (w : World) : Calls Tryd.prog 11 #[.agg #[.slice none 0 0, .slice none 0 0, .int .u32 0]] w fun e w' => ∃ A c, e = .returned (.tuple #[.slice A 6 c, .int .i64 0]) ∧ Nx w w' := by
  have h := txput_any (.slice none 0 0) (.slice none 0 0) txZ w (txAt_z w).i (txAt_z w).o (txAt_z w).a (txAt_z w).g
  have e1 : ptE txZ = 0 := by kernel_rfl
  have e2 : (ptT txZ).length = 6 := by kernel_rfl
  rw [e1] at h
  refine h.mono ?_
  rintro e w' ⟨r, rfl, h1, h2⟩
  obtain ⟨A, c, rfl, -⟩ := h1.rd
  exact ⟨A, c, by rw [e2], h2⟩
theorem rd_17 (w : World) : Rd (w.alloc (.cells #[.int .u8 17] 5)) (.slice (some ⟨w.heap.size, 0, none⟩) 1 1) [17] := by
  refine ⟨_, _, rfl, Nat.le_refl _, by simp [maxLen], fun _ => ⟨w.heap.size, 0, rfl, by simp, fun j hj => ?_⟩⟩
  have : j = 0 := by simpa using hj
  subst this
  rw [World.cell?_alloc_at _ _ _ _ rfl]
  rfl
theorem rdX_z6 : rdX (zeros 6) = (txZ, 0) := by kernel_rfl
theorem rdX_z7 : rdX (zeros 7) = (txZ, 5) := by kernel_rfl
set_option maxRecDepth 100000 in
set_option maxHeartbeats 8000000 in
theorem txwork_any (w : World) : Calls Tryd.prog 10 #[] w fun e w' => e = .returned (.bool true) ∧ Nx w w' := by
  have hmk1 : ∀ w, (Instr.makeSlice 33 (.int .i64 6) (.int .i64 6)).run Tryd.prog w = .ok (.slice (some ⟨w.heap.size, 0, none⟩) 6 6) (w.alloc (.cells (zer 6) 5)) := fun w => run_mk (P := Tryd.prog) 33 Tryd.underlying33 info_u8 .i64 .i64 6 (by omega) w
  have hmk2 : ∀ w, (Instr.makeSlice 33 (.int .i64 7) (.int .i64 7)).run Tryd.prog w = .ok (.slice (some ⟨w.heap.size, 0, none⟩) 7 7) (w.alloc (.cells (zer 7) 5)) := fun w => run_mk (P := Tryd.prog) 33 Tryd.underlying33 info_u8 .i64 .i64 7 (by omega) w
  obtain ⟨hz, hzs⟩ := zero_of_info info_tx2
  obtain ⟨hz3, hzs3⟩ := zero_of_info info_hash7
  have ih := Lib.hid (show (Tryd.prog.info? 28).map (·.size) = some (hcel Z32).size by rw [hcel_size, Z32_length]; exact hzs3)
  have cz := Lib.hid info_tx
  have H2 := Lib.hid (fun W => tread_z [] 4 rdX_0 (by decide) W (.slice none 0 0) (Rd.nil W))
  have H6 := Lib.hid (fun W v => tread_z (zeros 6) 0 rdX_z6 (by rw [zeros_length]; decide) W v)
  have H7 := Lib.hid (fun W v => tread_z (zeros 7) 5 rdX_z7 (by rw [zeros_length]; decide) W v)
  have H17 := Lib.hid (fun W v => tread_z [17] 3 rdX_17 (by decide) W v)
  have HD := Lib.hid tdigest_arg
  have HSM := Lib.hid (fun A c B d W (h : TxAt W (.slice A 0 c) (.slice B 0 d) txZ) => rsameT_yes (.slice A 0 c) (.slice B 0 d) (.slice none 0 0) (.slice none 0 0) txZ W h (txAt_z W))
  have HMY : Hid (∀ w, Calls Tryd.prog 18 #[.agg #[.slice none 0 0, .slice none 0 0, .int .u32 0]] w fun e w' => e = .returned (.bool true) ∧ Nx w w') := Lib.hid (fun w => by have := txmay_any (.slice none 0 0) (.slice none 0 0) txZ w (txAt_z w); rw [mayT_z] at this; exact this)
  go_enter Tryd.func10, Tryd.ntmps10
  go_wp2_with fail
  refine (tput_z _).mono ?_
  rintro e w1 ⟨A1, c1, rfl, n1⟩
  have N1 := Lib.hid n1
  clear n1
  go_wp2_with fail
  refine (H2.out _).mono ?_
  rintro e w2 ⟨A2, c2, B2, d2, rfl, -, n2⟩
  have N2 := Lib.hid ((N1.out.trans n2).alloc (.cells #[.slice A2 0 c2, .slice B2 0 d2, .int .u32 0] 26))
  clear n2 N1
  go_wp2_with fail
  have HS2 : Hid ((w2.alloc (.cells #[.slice A2 0 c2, .slice B2 0 d2, .int .u32 0] 26)).heap.size = w2.heap.size + 1) := Lib.hid (by simp)
  generalize w2.alloc (.cells #[.slice A2 0 c2, .slice B2 0 d2, .int .u32 0] 26) = V2 at *
  have RB := (Own.made V2 6 (by simp [maxLen])).rd
  rw [HS2.out] at RB
  have N3 := Lib.hid (N2.out.alloc (.cells (zer 6) 5))
  refine (H6.out _ _ RB).mono ?_
  rintro e w3 ⟨A3, c3, B3, d3, rfl, t3, n3⟩
  have R3 := Row.new w3 #[.slice A3 0 c3, .slice B3 0 d3, .int .u32 0] 26 _ rfl
  have T3 := Lib.hid (t3.nx ((Nx.refl w3).alloc (.cells #[.slice A3 0 c3, .slice B3 0 d3, .int .u32 0] 26)))
  have N4 := Lib.hid ((N3.out.trans n3).alloc (.cells #[.slice A3 0 c3, .slice B3 0 d3, .int .u32 0] 26))
  clear n3 t3 N3 N2 RB hmk1 HS2
  go_wp2_with fail
  have HS3 : Hid ((w3.alloc (.cells #[.slice A3 0 c3, .slice B3 0 d3, .int .u32 0] 26)).heap.size = w3.heap.size + 1) := Lib.hid (by simp)
  generalize w3.alloc (.cells #[.slice A3 0 c3, .slice B3 0 d3, .int .u32 0] 26) = V3 at *
  have RB := (Own.made V3 7 (by simp [maxLen])).rd
  rw [HS3.out] at RB
  have N5 := Lib.hid (N4.out.alloc (.cells (zer 7) 5))
  have M3 := (Nx.refl V3).alloc (.cells (zer 7) 5)
  refine (H7.out _ _ RB).mono ?_
  rintro e w4 ⟨A4, c4, B4, d4, rfl, -, n4⟩
  have M4 := (M3.trans n4).alloc (.cells #[.slice A4 0 c4, .slice B4 0 d4, .int .u32 0] 26)
  have R4 := R3.nx M4
  have T4 := Lib.hid (T3.out.nx M4)
  have N6 := Lib.hid ((N5.out.trans n4).alloc (.cells #[.slice A4 0 c4, .slice B4 0 d4, .int .u32 0] 26))
  clear n4 M3 M4 R3 T3 N5 N4 RB hmk2 HS3
  go_wp2_with fail
  have HS4 : Hid ((w4.alloc (.cells #[.slice A4 0 c4, .slice B4 0 d4, .int .u32 0] 26)).heap.size = w4.heap.size + 1) := Lib.hid (by simp)
  generalize w4.alloc (.cells #[.slice A4 0 c4, .slice B4 0 d4, .int .u32 0] 26) = V4 at *
  have RB := rd_17 V4
  rw [HS4.out] at RB
  have M4 := (Nx.refl V4).alloc (.cells #[.int .u8 17] 5)
  refine (H17.out _ _ RB).mono ?_
  rintro e w5 ⟨A5, c5, B5, d5, rfl, -, n5⟩
  have M5 := (M4.trans n5).alloc (.cells #[.slice A5 0 c5, .slice B5 0 d5, .int .u32 0] 26)
  have R5 := R4.nx M5
  have T5 := Lib.hid (T4.out.nx M5)
  have N7 := Lib.hid (N6.out.trans M5)
  clear n5 M4 M5 R4 T4 N6 RB HS4
  go_wp2_with (refine wpList_val (some 39) rfl rfl (.agg (ccel Z32 0 0 0 false (.slice none 0 0))) ?_ ?_; (focus kernel_rfl))
  refine (HD.out _ _).mono ?_
  rintro e w6 ⟨rfl, n6⟩
  have Z6 := Row.new w6 (hcel Z32) 28 _ rfl
  have M6 := n6.trans (((Nx.refl w6).alloc (.cells (hcel Z32) 28)).setRow (g := w6.heap.size) (hcel Z32) (Nat.le_refl _))
  have R6 := R5.nx M6
  have T6 := Lib.hid (T5.out.nx M6)
  have N8 := Lib.hid (N7.out.trans M6)
  clear n6 M6 R5 T5 N7
  have k0 := R6.cell (i := 0) (v := .slice A3 0 c3) rfl
  have k1 := R6.cell (i := 1) (v := .slice B3 0 d3) rfl
  have k2 := R6.cell (i := 2) (v := .int .u32 0) rfl
  clear R6
  go_wp2_with (refine wpList_store_row rfl 28 (.tmp 11) (.tmp 41) rfl w6.heap.size (hcel Z32) rfl rfl 28 (hcel Z32) Z6 ih.out rfl (hcel_one _) ?_)
  refine (HSM.out _ _ _ _ _ T6.out).mono ?_
  rintro e w7 ⟨rfl, n7⟩
  have N9 := Lib.hid (N8.out.trans n7)
  clear n7 N8
  go_wp2_with fail
  refine (HMY.out _).mono ?_
  rintro e w8 ⟨rfl, n8⟩
  have N10 := Lib.hid (N9.out.trans n8)
  clear n8 N9
  go_wp2_with fail
  go_ret
  exact ⟨rfl, N10.out⟩
end Go.Proofs.YtnbonmkecmgphaaDoor
end
