/- CONTRACTS OF LAYER 2: Pair. -/
import Derived.Test.YtpgdfboogjapeaaDoorSha7
namespace Go.Proofs.YtpgdfboogjapeaaDoor
open Go.RowKit
set_option linter.unusedVariables false
set_option linter.unusedSimpArgs false

theorem run_mk1 (x : UInt8) (w : World) : (Instr.buildSlice 22 1 #[(0, .int .u8 (x.toNat : Int))]).run Tryd.prog w = .ok (.slice (some ⟨w.heap.size, 0, none⟩) 1 1) (w.alloc (.cells #[.int .u8 (x.toNat : Int)] 5)) := by kernel_rfl
def Pair1 (ZZ a b H : List UInt8) (w W : World) (_u : Value) (L : Nat → Bool) (ac : Act) (wr : World) : Prop :=
  ∃ x0 x1 x2 x3 x4 x5 : Value, ac = ⟨#[Value.agg (hcel a), Value.agg (hcel b), Value.pointer (some { block := w.heap.size, off := 0 }), Value.pointer (some { block := w.heap.size + 1, off := 0 }), Value.pointer (some { block := w.heap.size + 1 + 1, off := 0 }), x0, x1, x2, x3, x4, x5], []⟩ ∧ Nx w wr ∧ W.heap.size ≤ wr.heap.size ∧ Row wr w.heap.size (hcel a) 24 ∧ Row wr (w.heap.size + 1) (hcel b) 24 ∧ Row wr (w.heap.size + 1 + 1) (if L 6 = true then hcel H else (hcel ZZ)) 24 ∧ (L 0 = true → L 6 = false → Own W.heap.size wr x0 [1]) ∧ (L 1 = true → x1 = .slice (some ⟨w.heap.size, 0, none⟩) 32 32) ∧ (L 2 = true → x2 = .slice (some ⟨w.heap.size + 1, 0, none⟩) 32 32) ∧ (L 3 = true → L 6 = false → CatAt x3 [[1], a, b] wr) ∧ (L 4 = true → L 6 = false → Own W.heap.size wr x4 ([1] ++ (a ++ b))) ∧ (L 5 = true → x5 = .agg (hcel H)) ∧ (L 6 = true → L 0 = true) ∧ (L 6 = true → L 3 = true) ∧ (L 6 = true → L 4 = true) ∧ (L 6 = true → L 5 = true)

set_option maxHeartbeats 4000000 in
set_option maxRecDepth 100000 in
theorem pair_any (a b : List UInt8) (w : World) (hk : KIs w) (ha : a.length = 32) (hb : b.length = 32) :
    Calls Tryd.prog 15 #[.agg (hcel a), .agg (hcel b)] w fun e w' => e = .returned (.agg (hcel (shaL (1 :: (a ++ b))))) ∧ Nx w w' := by
  obtain ⟨hz, hzs⟩ := zero_of_info info_hash'
  have HS : Hid (∀ W v, Nx w W → Rd W v ([1] ++ (a ++ b)) → Calls Tryd.prog 9 #[v] W fun e w' => e = .returned (.agg (hcel (shaL (1 :: (a ++ b))))) ∧ Nx W w') := Lib.hid fun W v h hr => sum_any v (1 :: (a ++ b)) W (hk.nx h) hr (by rw [List.length_cons, List.length_append]; omega)
  have HL2 := Lib.hid (shaL_length (1 :: (a ++ b)))
  have HZL : Hid ((List.replicate 32 (0 : UInt8)).length = 32) := Lib.hid List.length_replicate
  have HLA := Lib.hid ha
  have HLB := Lib.hid hb
  have HCC : Hid (∀ {B : Nat} (wr : World) (x : Value), CatAt x [[1], a, b] wr → B ≤ wr.heap.size → Calls Tryd.prog 30 #[x] wr fun e w' => ∃ v, e = .returned v ∧ Own B w' v ([1] ++ (a ++ b)) ∧ Nx wr w') := Lib.hid fun wr x h hB => by
    have := concat_at wr h (by simp) (by simp only [List.flatten_cons, List.flatten_nil, List.append_nil, List.length_append, List.length_singleton]; omega) _ hB
    simpa only [List.flatten_cons, List.flatten_nil, List.append_nil] using this
  have HSA := Lib.hid (fun w' => slice_arr_all (P := Tryd.prog) 24 5 32 Tryd.underlying24 Tryd.sizeOf5 w.heap.size (by omega) w')
  have HSB := Lib.hid (fun w' => slice_arr_all (P := Tryd.prog) 24 5 32 Tryd.underlying24 Tryd.sizeOf5 (w.heap.size + 1) (by omega) w')
  clear ha hb hk
  generalize shaL (1 :: (a ++ b)) = H at *
  generalize List.replicate 32 (0 : UInt8) = ZZ at *
  have hi2 := Lib.hid (hashsz H HL2.out)
  have ho2 := Lib.hid (hashsame ZZ H HZL.out HL2.out)
  go_enter Tryd.func15, Tryd.ntmps15
  go_wp2_with fail
  have HN0 : Hid (Nx w (((w.alloc (.cells (hcel a) 24)).alloc (.cells (hcel b) 24)).alloc (.cells (hcel ZZ) 24))) := Lib.hid ((((Nx.refl w).alloc _).alloc _).alloc _)
  have K00 : Row (((w.alloc (.cells (hcel a) 24)).alloc (.cells (hcel b) 24)).alloc (.cells (hcel ZZ) 24)) w.heap.size (hcel a) 24 := ((Row.new _ _ _ _ rfl).alloc _).alloc _
  have K10 : Row (((w.alloc (.cells (hcel a) 24)).alloc (.cells (hcel b) 24)).alloc (.cells (hcel ZZ) 24)) (w.heap.size + 1) (hcel b) 24 := (Row.new2 _ _ _ _).alloc _
  have K20 : Row (((w.alloc (.cells (hcel a) 24)).alloc (.cells (hcel b) 24)).alloc (.cells (hcel ZZ) 24)) (w.heap.size + 1 + 1) (hcel ZZ) 24 := Row.new3 _ _ _ _ _
  generalize ((w.alloc (.cells (hcel a) 24)).alloc (.cells (hcel b) 24)).alloc (.cells (hcel ZZ) 24) = W at *
  refine wp_region_inv [[], [], [], [0, 1, 2], [3], [4, 4], [5, 5, 0, 1, 2, 3, 4, 5]] (Pair1 ZZ a b H w W undef) (by kernel_rfl) (by kernel_rfl) (hord_of (by decide)) ?_ ?_ ?_
  · exact ⟨_, _, _, _, _, _, rfl, HN0.out.drew, Nat.le_refl _, K00.drew, K10.drew, K20.drew, (fun h => by cases h), (fun h => by cases h), (fun h => by cases h), (fun h => by cases h), (fun h => by cases h), (fun h => by cases h), (fun h => by cases h), (fun h => by cases h), (fun h => by cases h), (fun h => by cases h)⟩
  · rintro L ac wr ⟨x0, x1, x2, x3, x4, x5, rfl, HN, HZ, K0, K1, K2, F0, F1, F2, F3, F4, F5, T6_0, T6_3, T6_4, T6_5⟩ i hi hL hd K hK
    have hi' : i < 7 := hi
    have hcs : i = 0 ∨ i = 1 ∨ i = 2 ∨ i = 3 ∨ i = 4 ∨ i = 5 ∨ i = 6 := by omega
    clear hi hi'
    rcases hcs with rfl | rfl | rfl | rfl | rfl | rfl | rfl
    · have hs6 : L 6 = false := by
          rcases h : L 6 with _ | _
          · rfl
          · rw [T6_0 h] at hL; cases hL
      refine wpOp_of rfl rfl (wp_mk_of (some 5) rfl 22 1 _ rfl (#[(0, .int .u8 1)]) (by kernel_rfl) _ _ (run_mk1 1 wr) (hK _ _ ?_))
      have hp := (Own.one wr 1 1 rfl).mono HZ
      exact ⟨_, x1, x2, x3, x4, x5, rfl, HN.alloc _, Nat.le_trans HZ (by rw [alloc_size]; exact Nat.le_succ _), K0.alloc _, K1.alloc _, K2.alloc _, (fun _ _ => hp), F1, F2, (fun h h6 => CatAt.nx (F3 h h6) ((Nx.refl wr).alloc _)), (fun h h6 => Own.nx (F4 h h6) ((Nx.refl wr).alloc _)), F5, (fun _ => rfl), T6_3, T6_4, T6_5⟩
    · refine wpOp_of rfl rfl (wp_slice_of (some 6) rfl 24 ((.tmp 2)) none none none rfl (.slice (some ⟨w.heap.size, 0, none⟩) 32 32) (HSA.out wr) (hK _ _ ?_))
      exact ⟨x0, _, x2, x3, x4, x5, rfl, HN, HZ, K0, K1, K2, F0, (fun _ => rfl), F2, F3, F4, F5, T6_0, T6_3, T6_4, T6_5⟩
    · refine wpOp_of rfl rfl (wp_slice_of (some 7) rfl 24 ((.tmp 3)) none none none rfl (.slice (some ⟨w.heap.size + 1, 0, none⟩) 32 32) (HSB.out wr) (hK _ _ ?_))
      exact ⟨x0, x1, _, x3, x4, x5, rfl, HN, HZ, K0, K1, K2, F0, F1, (fun _ => rfl), F3, F4, F5, T6_0, T6_3, T6_4, T6_5⟩
    · have hs6 : L 6 = false := by
          rcases h : L 6 with _ | _
          · rfl
          · rw [T6_3 h] at hL; cases hL
      have e1 := F1 (hd 1 (by decide))
      subst e1
      have e2 := F2 (hd 2 (by decide))
      subst e2
      have p0 := F0 (hd 0 (by decide)) hs6
      have RA := K0.rd 32 HLA.out (by decide)
      have RB := K1.rd 32 HLB.out (by decide)
      refine wpOp_of rfl rfl (wp_mk_of (some 8) rfl 59 3 _ rfl (#[(0, x0), (1, .slice (some ⟨w.heap.size, 0, none⟩) 32 32), (2, .slice (some ⟨w.heap.size + 1, 0, none⟩) 32 32)]) (by kernel_rfl) _ _ (run_mk3 p0.rd.sl RA.sl RB.sl wr) (hK _ _ ?_))
      have hp := catAt3 p0.rd RA RB
      exact ⟨x0, _, _, _, x4, x5, rfl, HN.alloc _, Nat.le_trans HZ (by rw [alloc_size]; exact Nat.le_succ _), K0.alloc _, K1.alloc _, K2.alloc _, (fun h h6 => Own.nx (F0 h h6) ((Nx.refl wr).alloc _)), F1, F2, (fun _ _ => hp), (fun h h6 => Own.nx (F4 h h6) ((Nx.refl wr).alloc _)), F5, T6_0, (fun _ => rfl), T6_4, T6_5⟩
    · have hs6 : L 6 = false := by
          rcases h : L 6 with _ | _
          · rfl
          · rw [T6_4 h] at hL; cases hL
      have p3 := F3 (hd 3 (by decide)) hs6
      refine wpOp_of rfl rfl (wp_callp_of (some 9) rfl 30 #[_] (by kernel_rfl) (fun x w => Own W.heap.size w x ([1] ++ (a ++ b))) (HCC.out wr _ p3 HZ) (fun v w' hp hn => hK _ _ ?_))
      exact ⟨x0, x1, x2, x3, _, x5, rfl, HN.trans hn, Nat.le_trans HZ hn.size, K0.nx hn, K1.nx hn, K2.nx hn, (fun h h6 => Own.nx (F0 h h6) hn), F1, F2, (fun h h6 => CatAt.nx (F3 h h6) hn), (fun _ _ => hp), F5, T6_0, T6_3, (fun _ => rfl), T6_5⟩
    · have hs6 : L 6 = false := by
          rcases h : L 6 with _ | _
          · rfl
          · rw [T6_5 h] at hL; cases hL
      have p4 := F4 (hd 4 (by decide)) hs6
      refine wpOp_of rfl rfl (wp_call_of (some 10) rfl 9 #[_] (by kernel_rfl) _ (HS.out wr _ HN p4.rd) (fun w' hn => hK _ _ ?_))
      exact ⟨x0, x1, x2, x3, x4, _, rfl, HN.trans hn, Nat.le_trans HZ hn.size, K0.nx hn, K1.nx hn, K2.nx hn, (fun h h6 => Own.nx (F0 h h6) hn), F1, F2, (fun h h6 => CatAt.nx (F3 h h6) hn), (fun h h6 => Own.nx (F4 h h6) hn), (fun _ => rfl), T6_0, T6_3, T6_4, (fun _ => rfl)⟩
    · have e5 := F5 (hd 5 (by decide))
      subst e5
      rw [if_neg (by rw [hL]; decide)] at K2
      refine wpOp_of rfl rfl (wp_store_row 24 (.tmp 4) (.tmp 10) rfl (w.heap.size + 1 + 1) (hcel H) rfl rfl 24 ((hcel ZZ)) K2 hi2.out ho2.out (hcel_one _) (hK _ _ ?_))
      exact ⟨x0, x1, x2, x3, x4, _, rfl, HN.setRow _ (by omega), (by rw [size_setRow]; exact HZ), K0.setRow_other _ (by omega), K1.setRow_other _ (by omega), K2.setRow _, (fun _ hc => by cases hc), F1, F2, (fun _ hc => by cases hc), (fun _ hc => by cases hc), F5, (fun _ => hd 0 (by decide)), (fun _ => hd 3 (by decide)), (fun _ => hd 4 (by decide)), (fun _ => hd 5 (by decide))⟩
  · rintro L ac wr ⟨x0, x1, x2, x3, x4, x5, rfl, HN, HZ, K0, K1, K2, F0, F1, F2, F3, F4, F5, T6_0, T6_3, T6_4, T6_5⟩ hall
    have hall' : ∀ i, i < 7 → L i = true := hall
    have e1 := F1 (hall' 1 (by decide))
    have e2 := F2 (hall' 2 (by decide))
    have e5 := F5 (hall' 5 (by decide))
    rw [if_pos (hall' 6 (by decide))] at K2
    subst e1 e2 e5
    clear F0 F1 F2 F3 F4 F5 T6_0 T6_3 T6_4 T6_5 hall hall'
    have hl : w.heap.size ≤ w.heap.size + 1 + 1 := by omega
    go_wp2_with fail
    exact bodyPost_ret (results_cell_row Tryd.results15 _ _ (w.heap.size + 1 + 1) 24 (hcel H) (0, 0) _ rfl K2 Tryd.underlying24 rfl hi2.out) rfl ⟨rfl, HN⟩
end Go.Proofs.YtpgdfboogjapeaaDoor
