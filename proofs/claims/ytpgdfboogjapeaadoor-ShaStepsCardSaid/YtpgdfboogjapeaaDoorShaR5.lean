/- THE DOCUMENT'S LAYER 2: Twice, Leaf and Pair of a hasher. -/
import Derived.Test.YtpgdfboogjapeaaDoorShaR4
import Derived.Test.YtpgdfboogjapeaaDoorRegSep
namespace Go.Proofs.YtpgdfboogjapeaaDoor
open Go.RowKit
set_option linter.unusedVariables false
set_option linter.unusedSimpArgs false

theorem run_mk1' (x : UInt8) (w : World) : (Instr.buildSlice 22 1 #[(0, .int .u8 (x.toNat : Int))]).run Tryd.prog w = .ok (.slice (some ⟨w.heap.size, 0, none⟩) 1 1) (w.alloc (.cells #[.int .u8 (x.toNat : Int)] 5)) := by kernel_rfl

set_option maxHeartbeats 1000000 in
theorem rtwice_any (g : Nat) (vb : Value) (l : List UInt8) (w : World) (hg : Has w g) (hr : Rd w vb l) (hn : l.length ≤ 140737488354000) :
    Calls Tryd.prog 12 #[.pointer (some ⟨g, 0, none⟩), vb] w fun e w' => e = .returned (.agg (hcel (shaL (shaL l)))) ∧ Nx w w' := by
  have HG := Lib.hid hg
  have HR := Lib.hid hr
  obtain ⟨hz, hzs⟩ := zero_of_info info_hash'
  have HS1 : Hid (∀ W, Nx w W → Calls Tryd.prog 10 #[.pointer (some ⟨g, 0, none⟩), vb] W fun e w' => e = .returned (.agg (hcel (shaL l))) ∧ Nx W w') := Lib.hid fun W h => rsum_any g vb l W (HG.out.nx h) (HR.out.nx h) hn
  have HS2 : Hid (∀ W v, Nx w W → Rd W v (shaL l) → Calls Tryd.prog 10 #[.pointer (some ⟨g, 0, none⟩), v] W fun e w' => e = .returned (.agg (hcel (shaL (shaL l)))) ∧ Nx W w') := Lib.hid fun W v h hr => rsum_any g v (shaL l) W (HG.out.nx h) hr (by rw [shaL_length]; decide)
  have HLI : Hid (∀ W, Calls Tryd.prog 33 #[.agg (hcel (shaL l))] W fun e w' => ∃ v, e = .returned v ∧ Own W.heap.size w' v (shaL l) ∧ Nx W w') := Lib.hid fun W => rlist_any (shaL l) W (shaL_length l)
  have HL2 := Lib.hid (shaL_length (shaL l))
  have HZL : Hid ((List.replicate 32 (0 : UInt8)).length = 32) := Lib.hid List.length_replicate
  clear hg hr hn
  generalize shaL (shaL l) = H2 at *
  generalize shaL l = H at *
  generalize List.replicate 32 (0 : UInt8) = Z at *
  have h2 := Lib.hid (hashsz H2 HL2.out)
  have h4 := Lib.hid (hashsame Z H2 HZL.out HL2.out)
  go_enter Tryd.func12, Tryd.ntmps12
  go_wp2_with fail
  refine (HS1.out _ ((Nx.refl w).alloc _)).mono ?_
  rintro e w1 ⟨rfl, n1⟩
  have N1 := Lib.hid (((Nx.refl w).alloc _).trans n1)
  have R0 := (Row.new w (hcel Z) 24 _ rfl).nx n1
  clear n1
  go_wp2_with fail
  refine (HLI.out _).mono ?_
  rintro e w2 ⟨v2, rfl, o2, n2⟩
  have N2 := Lib.hid (N1.out.trans n2)
  have R2 := R0.nx n2
  have O2 := Lib.hid o2.rd
  clear n2 o2 R0
  go_wp2_with fail
  refine (HS2.out _ _ N2.out O2.out).mono ?_
  rintro e w3 ⟨rfl, n3⟩
  have N3 := Lib.hid (N2.out.trans n3)
  have R3 := R2.nx n3
  clear n3 R2
  go_wp2_with (refine wpList_store_row rfl 24 (.tmp 4) (.tmp 10) rfl w.heap.size (hcel H2) rfl rfl 24 (hcel Z) R3 h2.out h4.out (hcel_one _) ?_)
  exact bodyPost_ret (results_cell_row Tryd.results12 _ _ w.heap.size 24 (hcel H2) (0, 0) _ rfl (R3.setRow _) Tryd.underlying24 rfl h2.out) rfl ⟨rfl, N3.out.setRow _ (Nat.le_refl _)⟩

set_option maxHeartbeats 1000000 in
theorem rleaf_any (g : Nat) (vb : Value) (l : List UInt8) (w : World) (hg : Has w g) (hr : Rd w vb l) (hn : l.length ≤ 140737488353000) :
    Calls Tryd.prog 14 #[.pointer (some ⟨g, 0, none⟩), vb] w fun e w' => e = .returned (.agg (hcel (shaL (0 :: l)))) ∧ Nx w w' := by
  have HG := Lib.hid hg
  have HR := Lib.hid hr
  obtain ⟨hz, hzs⟩ := zero_of_info info_hash'
  have HS2 : Hid (∀ W v, Nx w W → Rd W v (0 :: l) → Calls Tryd.prog 10 #[.pointer (some ⟨g, 0, none⟩), v] W fun e w' => e = .returned (.agg (hcel (shaL (0 :: l)))) ∧ Nx W w') := Lib.hid fun W v h hr => rsum_any g v (0 :: l) W (HG.out.nx h) hr (by rw [List.length_cons]; omega)
  have HL2 := Lib.hid (shaL_length (0 :: l))
  have HZL : Hid ((List.replicate 32 (0 : UInt8)).length = 32) := Lib.hid List.length_replicate
  have HN := Lib.hid hn
  clear hg hr hn
  generalize shaL (0 :: l) = H2 at *
  generalize List.replicate 32 (0 : UInt8) = Z at *
  have h2 := Lib.hid (hashsz H2 HL2.out)
  have h4 := Lib.hid (hashsame Z H2 HZL.out HL2.out)
  go_enter Tryd.func14, Tryd.ntmps14
  go_wp2_with (at_builtin; refine wpList_app rfl (.tmp 6) (.tmp 7) _ rfl Tryd.underlying22 info_u8s (w.heap.size + 1) (.slice (some ⟨w.heap.size + 1, 0, none⟩) 1 1) vb [0] l rfl rfl ?c1 ?c2 ?c3 ?c4 ?_)
  case c1 =>
    have := Own.one (w.alloc (.cells (hcel Z) 24)) 0 0 rfl
    rwa [alloc_size] at this
  case c2 => exact (HR.out.alloc _).alloc _
  case c3 => have := HN.out; simp only [List.length_singleton]; omega
  case c4 => simp
  intro v' w1 o1 b1 _
  have R0 := ((Row.new w (hcel Z) 24 _ rfl).alloc (.cells #[.int .u8 0] 5)).bl b1 (by omega)
  have N1 := Lib.hid ((((Nx.refl w).alloc (.cells (hcel Z) 24)).alloc (.cells #[.int .u8 0] 5)).app (b1.mono (by omega)))
  have O1 : Hid (Rd w1 v' (0 :: l)) := Lib.hid o1.rd
  clear o1 b1
  go_wp2_with fail
  refine (HS2.out _ _ N1.out O1.out).mono ?_
  rintro e w3 ⟨rfl, n3⟩
  have N3 := Lib.hid (N1.out.trans n3)
  have R3 := R0.nx n3
  clear n3 R0
  go_wp2_with (refine wpList_store_row rfl 24 (.tmp 4) (.tmp 9) rfl w.heap.size (hcel H2) rfl rfl 24 (hcel Z) R3 h2.out h4.out (hcel_one _) ?_)
  exact bodyPost_ret (results_cell_row Tryd.results14 _ _ w.heap.size 24 (hcel H2) (0, 0) _ rfl (R3.setRow _) Tryd.underlying24 rfl h2.out) rfl ⟨rfl, N3.out.setRow _ (Nat.le_refl _)⟩
end Go.Proofs.YtpgdfboogjapeaaDoor
