/- CONTRACTS OF LAYER 2: Padded, Twice, Leaf. -/
import Derived.Test.YtpgdfboogjapeaaDoorSha6
namespace Go.Proofs.YtpgdfboogjapeaaDoor
open Go.RowKit
set_option linter.unusedVariables false
set_option linter.unusedSimpArgs false

/-- An array that stands in a block, read as a slice. -/
theorem Row.rd {w : World} {g : Nat} {l : List UInt8} {t : TypeId} (h : Row w g (hcel l) t) (n : Nat) (hn : l.length = n) (hm : n ≤ 1000) : Rd w (.slice (some ⟨g, 0, none⟩) n n) l := by
  subst hn
  exact ⟨_, _, rfl, Nat.le_refl _, by simp only [maxLen]; omega, At.of_cells h.lt fun j hj => by rw [Nat.zero_add]; exact h.cell (hcel_get l j hj)⟩

set_option maxHeartbeats 1000000 in
theorem padded_any (vb : Value) (l : List UInt8) (w : World) (hr : Rd w vb l) (hn : l.length ≤ 140737488355000) :
    Calls Tryd.prog 18 #[vb] w fun e w' => ∃ v, e = .returned v ∧ Own w.heap.size w' v (padL l) ∧ Nx w w' := by
  have hrd := hr
  obtain ⟨A, c, rfl, hc, hm, ha⟩ := hr
  have HE : Hid (∀ w, Calls Tryd.prog 31 #[.int .i64 (l.length : Int)] w fun e w' => ∃ v, e = .returned v ∧ Own w.heap.size w' v (padB l.length) ∧ Nx w w') := Lib.hid fun w => ending_any l.length w (by omega)
  have HB : Hid (l.length + (1 + gapN l.length + 8) ≤ 140737488355328) := Lib.hid (by unfold gapN; omega)
  have HL := Lib.hid (padB_length l.length)
  have HP : Hid (padL l = l ++ padB l.length) := Lib.hid rfl
  have HR := Lib.hid hrd
  clear ha hm hc hrd hn
  generalize padB l.length = PB at *
  generalize padL l = PL at *
  generalize gapN l.length = gp at *
  generalize hnn : l.length = n at *
  go_enter Tryd.func18, Tryd.ntmps18
  go_wp2_with fail
  refine (HE.out w).mono ?_
  rintro e w1 ⟨v1, rfl, o1, n1⟩
  have O1 := Lib.hid o1
  have N1 := Lib.hid n1
  have HC := Lib.hid (catAt2 (HR.out.nx n1) o1.rd)
  clear n1
  obtain ⟨A1, k1, c1, rfl⟩ := o1.rd.sl
  clear o1
  go_wp2_with fail
  refine (concat_at _ HC.out (by simp) (by simp only [List.flatten_cons, List.flatten_nil, List.append_nil, List.length_append]; rw [HL.out]; have := HB.out; omega) w.heap.size (by rw [alloc_size]; have := N1.out.size; omega)).mono ?_
  rintro e w2 ⟨v2, rfl, o2, n2⟩
  have O2 := Lib.hid o2
  have N2 := Lib.hid n2
  clear o2 n2
  go_wp2
  go_ret
  refine ⟨v2, rfl, ?_, (N1.out.alloc _).trans N2.out⟩
  rw [HP.out]
  have := O2.out
  simpa only [List.flatten_cons, List.flatten_nil, List.append_nil] using this

theorem info_rows1 : (Tryd.prog.info? 24).map (·.size) = some 32 := by kernel_rfl
theorem hashsz (l : List UInt8) (h : l.length = 32) : (Tryd.prog.info? 24).map (·.size) = some (hcel l).size := by rw [hcel_size, h]; exact info_rows1
theorem hashsame (l m : List UInt8) (h : l.length = 32) (h' : m.length = 32) : (hcel l).size = (hcel m).size := by rw [hcel_size, hcel_size, h, h']

set_option maxHeartbeats 1000000 in
theorem twice_any (vb : Value) (l : List UInt8) (w : World) (hk : KIs w) (hr : Rd w vb l) (hn : l.length ≤ 140737488355000) :
    Calls Tryd.prog 11 #[vb] w fun e w' => e = .returned (.agg (hcel (shaL (shaL l)))) ∧ Nx w w' := by
  have hrd := hr
  obtain ⟨A, c, rfl, hc, hm, ha⟩ := hr
  obtain ⟨hz, hzs⟩ := zero_of_info info_hash'
  have HS1 : Hid (∀ W, Nx w W → Calls Tryd.prog 9 #[.slice A l.length c] W fun e w' => e = .returned (.agg (hcel (shaL l))) ∧ Nx W w') := Lib.hid fun W h => sum_any _ l W (hk.nx h) (hrd.nx h) hn
  have HS2 : Hid (∀ W v, Nx w W → Rd W v (shaL l) → Calls Tryd.prog 9 #[v] W fun e w' => e = .returned (.agg (hcel (shaL (shaL l)))) ∧ Nx W w') := Lib.hid fun W v h hr => sum_any v (shaL l) W (hk.nx h) hr (by rw [shaL_length]; decide)
  have HL1 := Lib.hid (shaL_length l)
  have HL2 := Lib.hid (shaL_length (shaL l))
  have HZL : Hid ((List.replicate 32 (0 : UInt8)).length = 32) := Lib.hid List.length_replicate
  clear ha hm hc hrd hn hk
  generalize shaL (shaL l) = H2 at *
  generalize shaL l = H at *
  generalize List.replicate 32 (0 : UInt8) = Z at *
  go_enter Tryd.func11, Tryd.ntmps11
  go_wp2_with fail
  refine (HS1.out _ ((Nx.refl w).alloc _)).mono ?_
  rintro e w1 ⟨rfl, n1⟩
  have N1 := Lib.hid (((Nx.refl w).alloc _).trans n1)
  have R0 := (Row.new w (hcel Z) 24 _ rfl).nx n1
  clear n1
  have h1 := Lib.hid (hashsz H HL1.out)
  have h2 := Lib.hid (hashsz H2 HL2.out)
  have h3 := Lib.hid (hashsame Z H HZL.out HL1.out)
  have h4 := Lib.hid (hashsame Z H2 HZL.out HL2.out)
  have RN := Row.new w1 (hcel Z) 24 _ rfl
  go_wp2_with (refine wpList_store_row rfl 24 (.tmp 3) (.tmp 5) rfl w1.heap.size (hcel H) rfl rfl 24 (hcel Z) RN h1.out h3.out (hcel_one _) ?_)
  have hne : w.heap.size ≠ w1.heap.size := Nat.ne_of_lt R0.lt
  have R0' := (R0.alloc (.cells (hcel Z) 24)).setRow_other (k := w1.heap.size) (hcel H) hne
  have RN' := RN.setRow (hcel H)
  have N2 : Hid (Nx w ((w1.alloc (.cells (hcel Z) 24)).setRow w1.heap.size (hcel H))) := Lib.hid ((N1.out.alloc _).setRow _ N1.out.size)
  clear R0 RN N1
  generalize ((w1.alloc (.cells (hcel Z) 24)).setRow w1.heap.size (hcel H)) = W at *
  generalize w1.heap.size = g at *
  have hsl := fun w' => slice_arr_all (P := Tryd.prog) 24 5 32 Tryd.underlying24 Tryd.sizeOf5 g (by omega) w'
  have hrd := RN'.rd 32 HL1.out (by omega)
  go_wp2_with fail
  refine (HS2.out W _ N2.out hrd).mono ?_
  rintro e w2 ⟨rfl, n2⟩
  have N3 := Lib.hid (N2.out.trans n2)
  have R3 := R0'.nx n2
  clear n2 hrd hsl RN' R0' N2
  go_wp2_with (refine wpList_store_row rfl 24 (.tmp 2) (.tmp 7) rfl w.heap.size (hcel H2) rfl rfl 24 (hcel Z) R3 h2.out h4.out (hcel_one _) ?_)
  exact bodyPost_ret (results_cell_row Tryd.results11 _ _ w.heap.size 24 (hcel H2) (0, 0) _ rfl (R3.setRow _) Tryd.underlying24 rfl h2.out) rfl ⟨rfl, N3.out.setRow _ (Nat.le_refl _)⟩

set_option maxHeartbeats 1000000 in
theorem leaf_any (vb : Value) (l : List UInt8) (w : World) (hk : KIs w) (hr : Rd w vb l) (hn : l.length ≤ 140737488354000) :
    Calls Tryd.prog 13 #[vb] w fun e w' => e = .returned (.agg (hcel (shaL (0 :: l)))) ∧ Nx w w' := by
  have hrd := hr
  obtain ⟨A, c, rfl, hc, hm, ha⟩ := hr
  obtain ⟨hz, hzs⟩ := zero_of_info info_hash'
  have HB : Hid (1 + l.length ≤ 140737488355000) := Lib.hid (by omega)
  have HS2 : Hid (∀ W v, Nx w W → Rd W v (0 :: l) → Calls Tryd.prog 9 #[v] W fun e w' => e = .returned (.agg (hcel (shaL (0 :: l)))) ∧ Nx W w') := Lib.hid fun W v h hr => sum_any v (0 :: l) W (hk.nx h) hr (by rw [List.length_cons]; omega)
  have HL2 := Lib.hid (shaL_length (0 :: l))
  have HZL : Hid ((List.replicate 32 (0 : UInt8)).length = 32) := Lib.hid List.length_replicate
  have HR := Lib.hid hrd
  clear ha hm hc hrd hn hk
  generalize shaL (0 :: l) = H2 at *
  generalize List.replicate 32 (0 : UInt8) = Z at *
  go_enter Tryd.func13, Tryd.ntmps13
  go_wp2_with fail
  have R0 := Row.new w (hcel Z) 24 _ rfl
  have N0 := Lib.hid ((Nx.refl w).alloc (.cells (hcel Z) 24))
  have HO : Hid (Rd ((w.alloc (.cells (hcel Z) 24)).alloc (.cells #[.int .u8 0] 5)) (.slice (some ⟨w.heap.size + 1, 0, none⟩) 1 1) [0]) := Lib.hid (by
    have := Rd.one (w.alloc (.cells (hcel Z) 24)) 0 0 5 rfl
    rwa [alloc_size] at this)
  have HRR : Hid (Rd ((w.alloc (.cells (hcel Z) 24)).alloc (.cells #[.int .u8 0] 5)) (.slice A l.length c) l) := Lib.hid ((HR.out.alloc _).alloc _)
  have HC : Hid (CatAt (.slice (some ⟨w.heap.size + 1 + 1, 0, none⟩) 2 2) [[0], l] (((w.alloc (.cells (hcel Z) 24)).alloc (.cells #[.int .u8 0] 5)).alloc (.cells #[.slice (some ⟨w.heap.size + 1, 0, none⟩) 1 1, .slice A l.length c] 22))) := Lib.hid (by
    have := catAt2 HO.out HRR.out
    rwa [alloc_size, alloc_size] at this)
  with_reducible refine (concat_at _ HC.out (by simp) (by simp only [List.flatten_cons, List.flatten_nil, List.append_nil, List.length_append]; have := HB.out; simp; omega) w.heap.size (by rw [alloc_size, alloc_size, alloc_size]; omega)).mono ?_
  rintro e w2 ⟨v2, rfl, o2, n2⟩
  have N2 := Lib.hid (((N0.out.alloc _).alloc _).trans n2)
  have R2 := ((R0.alloc _).alloc _).nx n2
  have HRD : Hid (Rd w2 v2 (0 :: l)) := Lib.hid (by
    have := o2.rd
    simp only [List.flatten_cons, List.flatten_nil, List.append_nil] at this
    exact this)
  clear o2 n2 R0 N0 HO HRR HC
  go_wp2_with fail
  refine (HS2.out _ _ N2.out HRD.out).mono ?_
  rintro e w3 ⟨rfl, n3⟩
  have N3 := Lib.hid (N2.out.trans n3)
  have R3 := R2.nx n3
  have h2 := Lib.hid (hashsz H2 HL2.out)
  have h4 := Lib.hid (hashsame Z H2 HZL.out HL2.out)
  clear n3 R2 N2 HRD
  go_wp2_with (refine wpList_store_row rfl 24 (.tmp 2) (.tmp 7) rfl w.heap.size (hcel H2) rfl rfl 24 (hcel Z) R3 h2.out h4.out (hcel_one _) ?_)
  exact bodyPost_ret (results_cell_row Tryd.results13 _ _ w.heap.size 24 (hcel H2) (0, 0) _ rfl (R3.setRow _) Tryd.underlying24 rfl h2.out) rfl ⟨rfl, N3.out.setRow _ (Nat.le_refl _)⟩
end Go.Proofs.YtpgdfboogjapeaaDoor
