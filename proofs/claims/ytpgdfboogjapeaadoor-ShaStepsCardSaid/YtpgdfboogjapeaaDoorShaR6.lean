/- THE DOCUMENT'S LAYER 2: Pair of a hasher. -/
import Derived.Test.YtpgdfboogjapeaaDoorShaR5
namespace Go.Proofs.YtpgdfboogjapeaaDoor
open Go.RowKit
set_option linter.unusedVariables false
set_option linter.unusedSimpArgs false

set_option maxHeartbeats 4000000 in
set_option maxRecDepth 100000 in
theorem rpair_any (g : Nat) (a b : List UInt8) (w : World) (hg : Has w g) (ha : a.length = 32) (hb : b.length = 32) :
    Calls Tryd.prog 16 #[.pointer (some ⟨g, 0, none⟩), .agg (hcel a), .agg (hcel b)] w fun e w' => e = .returned (.agg (hcel (shaL (1 :: (a ++ b))))) ∧ Nx w w' := by
  have HG := Lib.hid hg
  obtain ⟨hz, hzs⟩ := zero_of_info info_hash'
  have HS : Hid (∀ W v, Nx w W → Rd W v ([1] ++ a ++ b) → Calls Tryd.prog 10 #[.pointer (some ⟨g, 0, none⟩), v] W fun e w' => e = .returned (.agg (hcel (shaL (1 :: (a ++ b))))) ∧ Nx W w') := Lib.hid fun W v h hr => rsum_any g v (1 :: (a ++ b)) W (HG.out.nx h) (by simpa using hr) (by rw [List.length_cons, List.length_append]; omega)
  have HLI : Hid (∀ W l, l.length = 32 → Calls Tryd.prog 33 #[.agg (hcel l)] W fun e w' => ∃ v, e = .returned v ∧ Own W.heap.size w' v l ∧ Nx W w') := Lib.hid fun W l h => rlist_any l W h
  have HL2 := Lib.hid (shaL_length (1 :: (a ++ b)))
  have HZL : Hid ((List.replicate 32 (0 : UInt8)).length = 32) := Lib.hid List.length_replicate
  have HLA := Lib.hid ha
  have HLB := Lib.hid hb
  clear ha hb hg
  generalize shaL (1 :: (a ++ b)) = H at *
  generalize List.replicate 32 (0 : UInt8) = ZZ at *
  have hi2 := Lib.hid (hashsz H HL2.out)
  have ho2 := Lib.hid (hashsame ZZ H HZL.out HL2.out)
  have hia := Lib.hid (hashsz a HLA.out)
  have hib := Lib.hid (hashsz b HLB.out)
  go_enter Tryd.func16, Tryd.ntmps16
  go_wp2_with fail
  have HN0 : Hid (Nx w (((w.alloc (.cells (hcel a) 24)).alloc (.cells (hcel b) 24)).alloc (.cells (hcel ZZ) 24))) := Lib.hid ((((Nx.refl w).alloc _).alloc _).alloc _)
  have K00 : Row (((w.alloc (.cells (hcel a) 24)).alloc (.cells (hcel b) 24)).alloc (.cells (hcel ZZ) 24)) w.heap.size (hcel a) 24 := ((Row.new _ _ _ _ rfl).alloc _).alloc _
  have K10 : Row (((w.alloc (.cells (hcel a) 24)).alloc (.cells (hcel b) 24)).alloc (.cells (hcel ZZ) 24)) (w.heap.size + 1) (hcel b) 24 := (Row.new2 _ _ _ _).alloc _
  have K20 : Row (((w.alloc (.cells (hcel a) 24)).alloc (.cells (hcel b) 24)).alloc (.cells (hcel ZZ) 24)) (w.heap.size + 1 + 1) (hcel ZZ) 24 := Row.new3 _ _ _ _ _
  generalize ((w.alloc (.cells (hcel a) 24)).alloc (.cells (hcel b) 24)).alloc (.cells (hcel ZZ) 24) = W at *
  refine wp_region_sep W.heap.size 9 [[], [], [], [2], [1, 3, 3], [], [5, 4], [4, 6, 6], [0, 7, 7], [8, 8, 0, 1, 2, 3, 4, 5, 6, 7, 8]] [some 7, some 8, some 9, some 10, some 11, some 12, some 13, some 14, some 15]
    [0, 2, 0, 2, 2, 0, 2, 2, 0] [none, some 4, none, none, some 7, none, none, none, none] [none, none, none, none, some 1, none, none, some 4, none]
    [{ V := .pointer (some ⟨g, 0, none⟩) }, { l := [1] }, { V := .agg (hcel a) }, { l := a }, { l := [1] ++ a }, { V := .agg (hcel b) }, { l := b }, { l := [1] ++ a ++ b }, { V := .agg (hcel H) }]
    (Nat.le_refl _) (by kernel_rfl) (by kernel_rfl) (hord_of (by decide)) (by kernel_rfl) (by decide) (by decide) (htail_of (by decide)) (stat4 (needs := [[], [], [], [2], [1, 3, 3], [], [5, 4], [4, 6, 6], [0, 7, 7], [8, 8, 0, 1, 2, 3, 4, 5, 6, 7, 8]]) (cons := [none, some 4, none, none, some 7, none, none, none, none]) (src := [none, none, none, none, some 1, none, none, some 4, none]) (by decide)) (statS (by decide)) ?_ ?_ ?_ ?_ _ (by rfl) ?_
  · intro j hj h1 v w w' _ _
    have : j = 0 ∨ j = 1 ∨ j = 2 ∨ j = 3 ∨ j = 4 ∨ j = 5 ∨ j = 6 ∨ j = 7 ∨ j = 8 := by omega
    rcases this with rfl | rfl | rfl | rfl | rfl | rfl | rfl | rfl | rfl <;> exact trivial
  · intro j hj h1
    have : j = 0 ∨ j = 1 ∨ j = 2 ∨ j = 3 ∨ j = 4 ∨ j = 5 ∨ j = 6 ∨ j = 7 ∨ j = 8 := by omega
    rcases this with rfl | rfl | rfl | rfl | rfl | rfl | rfl | rfl | rfl <;> cases h1
  · intro i j hi _ _ h1
    have : i = 0 ∨ i = 1 ∨ i = 2 ∨ i = 3 ∨ i = 4 ∨ i = 5 ∨ i = 6 ∨ i = 7 ∨ i = 8 := by omega
    rcases this with rfl | rfl | rfl | rfl | rfl | rfl | rfl | rfl | rfl <;> cases h1
  · intro x tm wr htm hbl hB i hi hd K hK
    simp only [fillA, List.setIfInBounds_toArray, List.set_cons_zero, List.set_cons_succ] at htm
    subst htm
    have hcs : i = 0 ∨ i = 1 ∨ i = 2 ∨ i = 3 ∨ i = 4 ∨ i = 5 ∨ i = 6 ∨ i = 7 ∨ i = 8 := by omega
    clear hi
    rcases hcs with rfl | rfl | rfl | rfl | rfl | rfl | rfl | rfl | rfl
    · exact wpOp_of rfl rfl (wp_val_of (some 7) rfl (.pointer (some ⟨g, 0, none⟩)) (by kernel_rfl) (hK _ _ ⟨rfl, Nx.refl _⟩))
    · exact wpOp_of rfl rfl (wp_mk_of (some 8) rfl 22 1 _ rfl (#[(0, .int .u8 1)]) (by kernel_rfl) _ _ (run_mk1' 1 wr) (hK _ _ ⟨Own.one wr 1 1 rfl, (Nx.refl _).alloc _⟩))
    · exact wpOp_of rfl rfl (wp_load_row_of (some 9) rfl 24 (.tmp 4) rfl w.heap.size rfl 24 (hcel a) _ (K00.bl hbl (K00.lt)) Tryd.underlying24 rfl hia.out (hK _ _ ⟨rfl, Nx.refl _⟩))
    · have e2 : x 2 = .agg (hcel a) := hd 2 (by decide)
      refine wpOp_of rfl rfl (wp_callp_of (some 10) rfl 33 #[x 2] (by kernel_rfl) (fun v w' => Own wr.heap.size w' v a) ?_ (fun v w' h1 h2 => hK v w' ⟨h1, h2⟩))
      rw [e2]
      exact HLI.out wr a HLA.out
    · have o1 : Own W.heap.size wr (x 1) [1] := hd 1 (by decide) (by decide)
      have o3 : Own W.heap.size wr (x 3) a := hd 3 (by decide) (by decide)
      exact wpOp_of rfl rfl (wp_app_of (some 11) rfl (.tmp 8) (.tmp 10) 22 rfl Tryd.underlying22 info_u8s W.heap.size (x 1) (x 3) [1] a rfl rfl o1 o3.rd (by rw [HLA.out]; decide) hB (fun v' w' h1 h2 h3 => hK v' w' ⟨h1, h2, h3⟩))
    · exact wpOp_of rfl rfl (wp_load_row_of (some 12) rfl 24 (.tmp 5) rfl (w.heap.size + 1) rfl 24 (hcel b) _ (K10.bl hbl (K10.lt)) Tryd.underlying24 rfl hib.out (hK _ _ ⟨rfl, Nx.refl _⟩))
    · have e5 : x 5 = .agg (hcel b) := hd 5 (by decide)
      refine wpOp_of rfl rfl (wp_callp_of (some 13) rfl 33 #[x 5] (by kernel_rfl) (fun v w' => Own wr.heap.size w' v b) ?_ (fun v w' h1 h2 => hK v w' ⟨h1, h2⟩))
      rw [e5]
      exact HLI.out wr b HLB.out
    · have o4 : Own W.heap.size wr (x 4) ([1] ++ a) := hd 4 (by decide) (by decide)
      have o6 : Own W.heap.size wr (x 6) b := hd 6 (by decide) (by decide)
      exact wpOp_of rfl rfl (wp_app_of (some 14) rfl (.tmp 11) (.tmp 13) 22 rfl Tryd.underlying22 info_u8s W.heap.size (x 4) (x 6) ([1] ++ a) b rfl rfl o4 o6.rd (by rw [List.length_append, HLA.out, HLB.out]; decide) hB (fun v' w' h1 h2 h3 => hK v' w' ⟨h1, h2, h3⟩))
    · have e0 : x 0 = .pointer (some ⟨g, 0, none⟩) := hd 0 (by decide)
      have o7 : Own W.heap.size wr (x 7) ([1] ++ a ++ b) := hd 7 (by decide) (by decide)
      refine wpOp_of rfl rfl (wp_call_of (some 15) rfl 10 #[x 0, x 7] (by kernel_rfl) (.agg (hcel H)) ?_ (fun w' h => hK _ w' ⟨rfl, h⟩))
      rw [e0]
      exact HS.out wr _ (HN0.out.trans hbl) o7.rd
  · intro x tm wr htm hbl hv
    simp only [fillA, List.setIfInBounds_toArray, List.set_cons_zero, List.set_cons_succ] at htm
    subst htm
    have e8 : x 8 = .agg (hcel H) := hv 8 (by decide)
    rw [e8]
    refine wpList_store_row rfl 24 (.tmp 6) (.tmp 15) rfl (w.heap.size + 1 + 1) (hcel H) rfl rfl 24 (hcel ZZ) (K20.bl hbl K20.lt) hi2.out ho2.out (hcel_one _) ?_
    refine wpList_nil ?_
    have K2 := (K20.bl hbl K20.lt).setRow (hcel H)
    have NF := Lib.hid ((HN0.out.trans hbl).setRow (hcel H) (show w.heap.size ≤ w.heap.size + 1 + 1 by omega))
    clear hv HN0 K00 K10 K20 hbl
    go_wp2_with fail
    exact bodyPost_ret (results_cell_row Tryd.results16 _ _ (w.heap.size + 1 + 1) 24 (hcel H) (0, 0) _ rfl K2 Tryd.underlying24 rfl hi2.out) rfl ⟨rfl, NF.out⟩
end Go.Proofs.YtpgdfboogjapeaaDoor
