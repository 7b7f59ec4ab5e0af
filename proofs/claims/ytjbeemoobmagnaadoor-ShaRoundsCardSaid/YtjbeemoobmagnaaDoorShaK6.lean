/- LAYER 2: the document's Round. -/
import Derived.Test.YtjbeemoobmagnaaDoorShaK5
import Derived.Test.YtjbeemoobmagnaaDoorGg
namespace Go.Proofs.YtjbeemoobmagnaaDoor
open Go Go.RowKit
set_option linter.unusedVariables false
set_option linter.unusedSimpArgs false
set_option linter.unusedVariables false
set_option linter.unusedSimpArgs false

set_option maxRecDepth 100000 in
set_option maxHeartbeats 4000000 in
theorem rround2_any (s : St) (B : List UInt8) (w : World) (hs : s.ok) (hB : B.length = 64) :
    Calls Tryd.prog 13 #[.agg (ints .u32 s.list), .agg (hcel B)] w fun e w' => e = .returned (.agg (ints .u32 (s.round B).list)) ∧ Nx w w' := by
  have HL := Lib.hid hB
  have hall : ∀ i (h : i < B.length), (hcel B)[i]? = some (bv B[i]) := hcel_get B
  replace hall := Lib.hid hall
  obtain ⟨hz, hzs⟩ := zero_of_info info_w8
  have HSR := Lib.hid (fun (vb : Value) (w : World) (hr : Rd w vb B) => rround_any s B vb w hs hB hr)
  have hz1 : (Tryd.prog.info? 23).map (·.size) = some (ints .u32 s.list).size := by rw [ints_size]; exact hzs
  have hz2 : (Tryd.prog.info? 23).map (·.size) = some (ints .u32 (s.round B).list).size := by rw [ints_size]; exact hzs
  have ho2 : (ints .u32 [0, 0, 0, 0, 0, 0, 0, 0]).size = (ints .u32 (s.round B).list).size := by rw [ints_size, ints_size]; rfl
  replace hz1 := Lib.hid hz1
  replace hz2 := Lib.hid hz2
  replace ho2 := Lib.hid ho2
  clear hB hs
  go_enter Tryd.func13, Tryd.ntmps13
  go_wp2_with fail
  have R0 := ((Row.new w (ints .u32 s.list) 23 _ rfl).alloc (.cells (hcel B) 24)).alloc (.cells (ints .u32 [0, 0, 0, 0, 0, 0, 0, 0]) 23)
  have RB := (Row.new2 w (.cells (ints .u32 s.list) 23) (hcel B) 24).alloc (.cells (ints .u32 [0, 0, 0, 0, 0, 0, 0, 0]) 23)
  have RZ := Row.new3 w (.cells (ints .u32 s.list) 23) (.cells (hcel B) 24) (ints .u32 [0, 0, 0, 0, 0, 0, 0, 0]) 23
  have N0 := Lib.hid ((((Nx.refl w).alloc (.cells (ints .u32 s.list) 23)).alloc (.cells (hcel B) 24)).alloc (.cells (ints .u32 [0, 0, 0, 0, 0, 0, 0, 0]) 23))
  replace hz := Lib.hid hz
  replace hzs := Lib.hid hzs
  generalize (((w.alloc (.cells (ints .u32 s.list) 23)).alloc (.cells (hcel B) 24)).alloc (.cells (ints .u32 [0, 0, 0, 0, 0, 0, 0, 0]) 23)) = W at *
  go_loopw [5, 6] (fun u i wr => ∃ k : Nat, k ≤ 64 ∧ i = .int .i64 k ∧ Own (w.heap.size + 1 + 1 + 1) wr u (B.take k) ∧ Row wr w.heap.size (ints .u32 s.list) 23 ∧ Row wr (w.heap.size + 1) (hcel B) 24 ∧ Row wr (w.heap.size + 1 + 1) (ints .u32 [0, 0, 0, 0, 0, 0, 0, 0]) 23 ∧ Hid (Nx w wr)) (fun _ i _ => 64 - (intOf i).toNat)
  case atStart => exact ⟨0, by omega, rfl, by rw [List.take_zero]; exact Own.nil _ _, R0, RB, RZ, N0⟩
  case round =>
    clear N0 R0 RB RZ
    obtain ⟨k, hk, rfl, hown, R0, RB, RZ, HN⟩ := hrel
    by_cases hlt : k < 64
    · have hkl : k < B.length := by rw [HL.out]; exact hlt
      have c1 := RB.cell (hall.out k hkl)
      have HT := Lib.hid (List.take_succ_eq_append_getElem hkl)
      have hk32 : (k : Int) < 64 := by omega
      have HLL : Hid ((B.take k).length ≤ 64) := Lib.hid (by rw [List.length_take]; omega)
      replace hkl := Lib.hid hkl
      have HNG : Hid (w.heap.size + 1 + 1 < wr.heap.size) := Lib.hid RZ.lt
      go_wp2_with (at_builtin; refine wpList_app rfl (.tmp 11) (.tmp 15) _ rfl Tryd.underlying34 info_u8s (w.heap.size + 1 + 1 + 1) _ (.slice (some ⟨wr.heap.size, 0, none⟩) 1 1) (B.take k) [B[k]'(hkl.out)] rfl rfl (hown.alloc _) (Rd.one _ _ _ _ rfl) ?c2 ?c3 ?_)
      case c2 => have := HLL.out; simp only [List.length_singleton]; omega
      case c3 => have := HNG.out; simp; omega
      intro v' w' hown' hb' _
      have HNN := Lib.hid ((HN.out.alloc _).app (hb'.mono (by omega)))
      have RR0 := (R0.alloc (.cells #[bv (B[k]'(hkl.out))] 5)).bl hb' (by omega)
      have RR1 := (RB.alloc (.cells #[bv (B[k]'(hkl.out))] 5)).bl hb' (by omega)
      have RR2 := (RZ.alloc (.cells #[bv (B[k]'(hkl.out))] 5)).bl hb' (by omega)
      have HO2 := Lib.hid hown'
      clear hown' hown
      go_wp2
      go_roundw
      case rel => exact ⟨k + 1, by omega, by go_num, by first | exact HO2.out | (rw [HT.out]; exact HO2.out), RR0, RR1, RR2, HNN⟩
      case measure => simp [intOf]; omega
    · obtain rfl : k = 64 := by omega
      rw [List.take_of_length_le (by rw [HL.out]; exact Nat.le_refl _)] at hown
      have HRO := Lib.hid hown.rd
      obtain ⟨AO, cO, rfl, -, -, -⟩ := hown.rd
      have hl : w.heap.size ≤ w.heap.size + 1 + 1 := by omega
      clear hown hall RB
      generalize hnO : B.length = nO at *
      clear HL hnO
      go_wp2_with fail
      refine wp_region_nx 4 [[], [], [], [0, 1, 2, 2], [3, 3, 0, 1, 2, 3]] [some 17, some 18, some 19, some 20]
        [.eq (.agg (ints .u32 s.list)), .eq (.slice AO nO cO), .eq (.agg (ints .u32 kL)), .eq (.agg (ints .u32 (s.round B).list))]
        (by kernel_rfl) (by kernel_rfl) (hord_of (by decide)) (by kernel_rfl) (by decide) (by decide) (htail_of (by decide)) ?_ _ (by rfl) ?_
      · intro x tm wr htm hx i hi hd K hK
        simp only [fillA, List.setIfInBounds_toArray, List.set_cons_zero, List.set_cons_succ] at htm
        subst htm
        have hcs : i = 0 ∨ i = 1 ∨ i = 2 ∨ i = 3 := by omega
        clear hi
        rcases hcs with rfl | rfl | rfl | rfl
        · exact wpOp_of rfl rfl (wp_load_row_of (some 17) rfl 23 (.tmp 2) rfl (w.heap.size) rfl 23 (ints .u32 s.list) _ (R0.nx hx) Tryd.underlying23 rfl hz1.out (hK _ _ rfl (Nx.refl _)))
        · exact wpOp_of rfl rfl (wp_val_of (some 18) rfl (.slice AO nO cO) (by kernel_rfl) (hK _ _ rfl (Nx.refl _)))
        · refine wpOp_of rfl rfl (wp_call_of (some 19) rfl 43 #[] (by kernel_rfl) (.agg (ints .u32 kL)) ?_ (fun w' h => hK _ w' rfl h))
          exact rk_any _
        · have e0 : x 0 = .agg (ints .u32 s.list) := hd 0 (by decide)
          have e1 : x 1 = .slice AO nO cO := hd 1 (by decide)
          have e2 : x 2 = .agg (ints .u32 kL) := hd 2 (by decide)
          generalize x 0 = y0 at e0 hK ⊢
          subst e0
          generalize x 1 = y1 at e1 hK ⊢
          subst e1
          generalize x 2 = y2 at e2 hK ⊢
          subst e2
          refine wpOp_of rfl rfl (wp_call_of (some 20) rfl 42 #[(.agg (ints .u32 s.list)), (.slice AO nO cO), (.agg (ints .u32 kL))] (by kernel_rfl) (.agg (ints .u32 (s.round B).list)) ?_ (fun w' h => hK _ w' rfl h))
          exact HSR.out _ wr (HRO.out.nx hx)
      · intro x tm wr htm hx hv
        simp only [fillA, List.setIfInBounds_toArray, List.set_cons_zero, List.set_cons_succ] at htm
        subst htm
        have e3 : x 3 = .agg (ints .u32 (s.round B).list) := hv 3 (by decide)
        rw [e3]
        refine wpList_store_row rfl 23 (.tmp 4) (.tmp 20) rfl (w.heap.size + 1 + 1) (ints .u32 (s.round B).list) rfl rfl 23 (ints .u32 [0, 0, 0, 0, 0, 0, 0, 0]) (RZ.nx hx) hz2.out ho2.out (ints_one _ _) ?_
        refine wpList_nil ?_
        go_wp2_with fail
        exact bodyPost_ret (results_cell_row Tryd.results13 _ _ (w.heap.size + 1 + 1) 23 (ints .u32 (s.round B).list) (0, 0) _ rfl ((RZ.nx hx).setRow _) Tryd.underlying23 rfl hz2.out) rfl ⟨rfl, (HN.out.trans hx).setRow _ hl⟩
end Go.Proofs.YtjbeemoobmagnaaDoor
