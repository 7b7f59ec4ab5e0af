/- LAYER 2: the walk of ShaRounds. -/
import Derived.Test.YtjbeemoobmagnaaDoorShaK6
import Derived.Test.YtjbeemoobmagnaaDoorShaLaw1H
import Derived.Test.YtjbeemoobmagnaaDoorRegG
import Derived.Test.YtjbeemoobmagnaaDoorEqH
import Derived.Test.YtjbeemoobmagnaaDoorGa
namespace Go.Proofs.YtjbeemoobmagnaaDoor
open Go Go.RowKit
set_option linter.unusedVariables false
set_option linter.unusedSimpArgs false
set_option linter.unusedVariables false
set_option linter.unusedSimpArgs false

theorem eq_w8 (s : St) (w : World) : (Op.equalIn 10000 23 (.agg (ints .u32 s.list)) (.agg (ints .u32 s.list))).run Tryd.prog w = .ok true w := by
  have := eq_ints (P := Tryd.prog) 9998 23 22 8 .u32 Tryd.underlying23 Tryd.underlying22 Tryd.isAgg22 Tryd.sizeOf22 s.list s.list rfl rfl w
  rw [this]; simp
/-- Eight words that came in. -/
theorem w8_of (zs : List Int) (hz : zs.length = 8) (hw : ∀ z ∈ zs, (Lit.int .u32 z).wf = true) : ∃ s : St, s.ok ∧ ints .u32 zs = ints .u32 s.list := by
  match zs, hz, hw with
  | [a, b, c, d, e, f, g, h], _, hw =>
    have W : ∀ z ∈ [a, b, c, d, e, f, g, h], Wd z := fun z hz => by
      have := wf_u32 (hw z hz)
      exact ⟨this.1, by omega⟩
    exact ⟨⟨a, b, c, d, e, f, g, h⟩, ⟨W _ (by simp), W _ (by simp), W _ (by simp), W _ (by simp), W _ (by simp), W _ (by simp), W _ (by simp), W _ (by simp)⟩, rfl⟩
theorem b64_of (zs : List Int) (hz : zs.length = 64) (hw : ∀ z ∈ zs, (Lit.int .u8 z).wf = true) : ∃ l : List UInt8, l.length = 64 ∧ ints .u8 zs = hcel l := by
  refine ⟨zs.map fun z => UInt8.ofNat z.toNat, by simpa using hz, ?_⟩
  rw [hcel_ints, List.map_map]
  congr 1
  symm
  refine (List.map_congr_left (g := id) fun z hz => ?_).trans (List.map_id _)
  have := wf_u8 (hw z hz)
  simp only [Function.comp, id, UInt8.toNat_ofNat']
  omega
set_option maxRecDepth 100000 in
set_option maxHeartbeats 4000000 in
theorem shaRounds_law0 (s : St) (B : List UInt8) (w : World) (hs : s.ok) (hB : B.length = 64) (hk : KIs w) :
    Calls Tryd.prog 3 #[.agg (ints .u32 s.list), .agg (hcel B)] w fun e w' => e = .returned (.bool true) ∧ Nx w w' := by
  have hz1 : (Tryd.prog.info? 23).map (·.size) = some (ints .u32 s.list).size := by rw [ints_size]; kernel_rfl
  have hz2 : (Tryd.prog.info? 24).map (·.size) = some (hcel B).size := by rw [hcel_size, hB]; kernel_rfl
  replace hz1 := Lib.hid hz1
  replace hz2 := Lib.hid hz2
  have H1 : Hid (∀ W, Nx w W → Calls Tryd.prog 12 #[.agg (ints .u32 s.list), .agg (hcel B)] W fun e w' => e = .returned (.agg (ints .u32 (s.round B).list)) ∧ Nx W w') := Lib.hid fun W h => round_any s B W hs hB (hk.nx h)
  have H2 := Lib.hid (fun W => rround2_any s B W hs hB)
  have H3 := Lib.hid (fun W => begin_any W)
  have H4 := Lib.hid (fun W => rbegin2_any W)
  have HW : Hid (∀ W, Nx w W → Calls Tryd.prog 16 #[] W fun e w' => e = .returned (.bool true) ∧ Nx W w') := Lib.hid fun W h => works_any W (hk.nx h)
  have E1 := Lib.hid (fun w => eq_w8 (s.round B) w)
  have E2 := Lib.hid (fun w => eq_w8 beginS w)
  generalize (s.round B).list = RS at *
  generalize beginS.list = BG at *
  clear hs hB hk
  have R0 := (Row.new w (ints .u32 s.list) 23 _ rfl).alloc (.cells (hcel B) 24)
  have R1 := Row.new2 w (.cells (ints .u32 s.list) 23) (hcel B) 24
  have N0 := Lib.hid (((Nx.refl w).alloc (.cells (ints .u32 s.list) 23)).alloc (.cells (hcel B) 24))
  go_enter Tryd.func3, Tryd.ntmps3
  go_wp2_with fail
  refine wp_region_nx 16 [[], [], [0, 1], [], [], [3, 4, 2], [2, 5], [6, 5], [7, 7], [8, 7], [8, 9, 7], [7, 10], [11, 9], [12, 12], [12, 13], [14, 13, 0, 1, 2, 3, 4, 5, 6, 7, 8, 9, 10, 11, 12, 13, 14]] [some 5, some 6, some 7, some 8, some 9, some 10, some 11, some 12, some 13, some 14, some 15, some 16, some 17, some 18, some 19, some 4]
    [.eq (.agg (ints .u32 s.list)), .eq (.agg (hcel B)), .eq (.agg (ints .u32 RS)), .eq (.agg (ints .u32 s.list)), .eq (.agg (hcel B)), .eq (.agg (ints .u32 RS)), .eq (.bool true), .eq (.bool true), .eq (.agg (ints .u32 BG)), .eq (.agg (ints .u32 BG)), .eq (.bool true), .eq (.bool true), .eq (.bool true), .eq (.bool true), .eq (.bool true), .eq (.bool true)]
    (by kernel_rfl) (by kernel_rfl) (hord_of (by decide)) (by kernel_rfl) (by decide) (by decide) (htail_of (by decide)) ?_ _ (by rfl) ?_
  · intro x tm wr htm hx i hi hd K hK
    simp only [fillA, List.setIfInBounds_toArray, List.set_cons_zero, List.set_cons_succ] at htm
    subst htm
    have hcs : i = 0 ∨ i = 1 ∨ i = 2 ∨ i = 3 ∨ i = 4 ∨ i = 5 ∨ i = 6 ∨ i = 7 ∨ i = 8 ∨ i = 9 ∨ i = 10 ∨ i = 11 ∨ i = 12 ∨ i = 13 ∨ i = 14 ∨ i = 15 := by omega
    clear hi
    rcases hcs with rfl | rfl | rfl | rfl | rfl | rfl | rfl | rfl | rfl | rfl | rfl | rfl | rfl | rfl | rfl | rfl
    · exact wpOp_of rfl rfl (wp_load_row_of (some 5) rfl 23 (.tmp 2) rfl (w.heap.size) rfl 23 (ints .u32 s.list) _ (R0.nx hx) Tryd.underlying23 rfl hz1.out (hK _ _ rfl (Nx.refl _)))
    · exact wpOp_of rfl rfl (wp_load_row_of (some 6) rfl 24 (.tmp 3) rfl (w.heap.size + 1) rfl 24 (hcel B) _ (R1.nx hx) Tryd.underlying24 rfl hz2.out (hK _ _ rfl (Nx.refl _)))
    · have e0 : x 0 = .agg (ints .u32 s.list) := hd 0 (by decide)
      have e1 : x 1 = .agg (hcel B) := hd 1 (by decide)
      generalize x 0 = y0 at e0 hK ⊢
      subst e0
      generalize x 1 = y1 at e1 hK ⊢
      subst e1
      refine wpOp_of rfl rfl (wp_call_of (some 7) rfl 12 #[(.agg (ints .u32 s.list)), (.agg (hcel B))] (by kernel_rfl) (.agg (ints .u32 RS)) ?_ (fun w' h => hK _ w' rfl h))
      exact H1.out wr (N0.out.trans hx)
    · exact wpOp_of rfl rfl (wp_load_row_of (some 8) rfl 23 (.tmp 2) rfl (w.heap.size) rfl 23 (ints .u32 s.list) _ (R0.nx hx) Tryd.underlying23 rfl hz1.out (hK _ _ rfl (Nx.refl _)))
    · exact wpOp_of rfl rfl (wp_load_row_of (some 9) rfl 24 (.tmp 3) rfl (w.heap.size + 1) rfl 24 (hcel B) _ (R1.nx hx) Tryd.underlying24 rfl hz2.out (hK _ _ rfl (Nx.refl _)))
    · have e3 : x 3 = .agg (ints .u32 s.list) := hd 3 (by decide)
      have e4 : x 4 = .agg (hcel B) := hd 4 (by decide)
      have e2 : x 2 = .agg (ints .u32 RS) := hd 2 (by decide)
      generalize x 3 = y3 at e3 hK ⊢
      subst e3
      generalize x 4 = y4 at e4 hK ⊢
      subst e4
      generalize x 2 = y2 at e2 hK ⊢
      subst e2
      refine wpOp_of rfl rfl (wp_call_of (some 10) rfl 13 #[(.agg (ints .u32 s.list)), (.agg (hcel B))] (by kernel_rfl) (.agg (ints .u32 RS)) ?_ (fun w' h => hK _ w' rfl h))
      exact H2.out wr
    · have e2 : x 2 = .agg (ints .u32 RS) := hd 2 (by decide)
      have e5 : x 5 = .agg (ints .u32 RS) := hd 5 (by decide)
      generalize x 2 = y2 at e2 hK ⊢
      subst e2
      generalize x 5 = y5 at e5 hK ⊢
      subst e5
      exact wpOp_of rfl rfl (wp_eql_of (some 11) rfl 23 _ _ _ rfl (ints .u32 RS) (ints .u32 RS) rfl rfl (by kernel_rfl) true (E1.out wr) (hK _ _ rfl (Nx.refl _)))
    · have e6 : x 6 = .bool true := hd 6 (by decide)
      have e5 : x 5 = .agg (ints .u32 RS) := hd 5 (by decide)
      generalize x 6 = y6 at e6 hK ⊢
      subst e6
      generalize x 5 = y5 at e5 hK ⊢
      subst e5
      exact wpOp_of rfl rfl (wp_val_of (some 12) rfl (.bool true) (by kernel_rfl) (hK _ _ rfl (Nx.refl _)))
    · have e7 : x 7 = .bool true := hd 7 (by decide)
      generalize x 7 = y7 at e7 hK ⊢
      subst e7
      refine wpOp_g rfl (by rfl) (wp_call_of (some 13) rfl 14 #[] (by kernel_rfl) (.agg (ints .u32 BG)) ?_ (fun w' h => hK _ w' rfl h))
      exact H3.out wr
    · have e8 : x 8 = .agg (ints .u32 BG) := hd 8 (by decide)
      have e7 : x 7 = .bool true := hd 7 (by decide)
      generalize x 8 = y8 at e8 hK ⊢
      subst e8
      generalize x 7 = y7 at e7 hK ⊢
      subst e7
      refine wpOp_g rfl (by rfl) (wp_call_of (some 14) rfl 15 #[] (by kernel_rfl) (.agg (ints .u32 BG)) ?_ (fun w' h => hK _ w' rfl h))
      exact H4.out wr
    · have e8 : x 8 = .agg (ints .u32 BG) := hd 8 (by decide)
      have e9 : x 9 = .agg (ints .u32 BG) := hd 9 (by decide)
      have e7 : x 7 = .bool true := hd 7 (by decide)
      generalize x 8 = y8 at e8 hK ⊢
      subst e8
      generalize x 9 = y9 at e9 hK ⊢
      subst e9
      generalize x 7 = y7 at e7 hK ⊢
      subst e7
      exact wpOp_g rfl (by rfl) (wp_eql_of (some 15) rfl 23 _ _ _ rfl (ints .u32 BG) (ints .u32 BG) rfl rfl (by kernel_rfl) true (E2.out wr) (hK _ _ rfl (Nx.refl _)))
    · have e7 : x 7 = .bool true := hd 7 (by decide)
      have e10 : x 10 = .bool true := hd 10 (by decide)
      generalize x 7 = y7 at e7 hK ⊢
      subst e7
      generalize x 10 = y10 at e10 hK ⊢
      subst e10
      exact wpOp_of rfl rfl (wp_val_of (some 16) rfl (.bool true) (by kernel_rfl) (hK _ _ rfl (Nx.refl _)))
    · have e11 : x 11 = .bool true := hd 11 (by decide)
      have e9 : x 9 = .agg (ints .u32 BG) := hd 9 (by decide)
      generalize x 11 = y11 at e11 hK ⊢
      subst e11
      generalize x 9 = y9 at e9 hK ⊢
      subst e9
      exact wpOp_of rfl rfl (wp_val_of (some 17) rfl (.bool true) (by kernel_rfl) (hK _ _ rfl (Nx.refl _)))
    · have e12 : x 12 = .bool true := hd 12 (by decide)
      generalize x 12 = y12 at e12 hK ⊢
      subst e12
      refine wpOp_g rfl (by rfl) (wp_call_of (some 18) rfl 16 #[] (by kernel_rfl) (.bool true) ?_ (fun w' h => hK _ w' rfl h))
      exact HW.out wr (N0.out.trans hx)
    · have e12 : x 12 = .bool true := hd 12 (by decide)
      have e13 : x 13 = .bool true := hd 13 (by decide)
      generalize x 12 = y12 at e12 hK ⊢
      subst e12
      generalize x 13 = y13 at e13 hK ⊢
      subst e13
      exact wpOp_of rfl rfl (wp_val_of (some 19) rfl (.bool true) (by kernel_rfl) (hK _ _ rfl (Nx.refl _)))
    · have e14 : x 14 = .bool true := hd 14 (by decide)
      generalize x 14 = y14 at e14 hK ⊢
      subst e14
      exact wpOp_of rfl rfl (wp_val_of (some 4) rfl (.bool true) (by kernel_rfl) (hK _ _ rfl (Nx.refl _)))
  · intro x tm wr htm hx hv
    simp only [fillA, List.setIfInBounds_toArray, List.set_cons_zero, List.set_cons_succ] at htm
    subst htm
    have e15 : x 15 = .bool true := hv 15 (by decide)
    rw [e15]
    refine wpList_nil ?_
    go_wp2_with fail
    go_ret
    exact ⟨rfl, N0.out.trans hx⟩
theorem shaRounds_law {w : World} (s : St) (hs : s.ok) (B : List UInt8) (hB : B.length = 64) (hk : KIs w) :
    Calls Tryd.prog 3 #[.agg (ints .u32 s.list), .agg (hcel B)] w fun e w' => e = .returned (.bool true) ∧ Nx w w' := shaRounds_law0 s B w hs hB hk
end Go.Proofs.YtjbeemoobmagnaaDoor
