/- LAYER 9, the document's: Root, Way. -/
import Derived.Test.YtjbeemoobmagnaaDoorMer7
namespace Go.Proofs.YtjbeemoobmagnaaDoor
open Go Go.RowKit
set_option linter.unusedVariables false
set_option linter.unusedSimpArgs false
set_option linter.unusedVariables false
set_option linter.unusedSimpArgs false

theorem rowsF_cons (l : Hs) : ∃ t, rowsF l = l :: t ∧ (l.length ≤ 1 → t = []) ∧ (¬ l.length ≤ 1 → t = rowsF (abv l)) := by
  by_cases h : l.length ≤ 1
  · exact ⟨[], rowsF_le h, fun _ => rfl, fun h2 => absurd h h2⟩
  · exact ⟨rowsF (abv l), rowsF_gt h, fun h2 => absurd h2 h, fun _ => rfl⟩
theorem rowsF_pos (l : Hs) : 0 < (rowsF l).length := by obtain ⟨t, h, _⟩ := rowsF_cons l; rw [h]; simp
theorem rowsF_last : ∀ (l : Hs), (rowsF l)[(rowsF l).length - 1]? = some (topR l) := by
  intro l
  induction hn : l.length using Nat.strongRecOn generalizing l with
  | _ n ih =>
    by_cases h1 : l.length ≤ 1
    · rw [rowsF_le h1, topR_le h1]; rfl
    · rw [rowsF_gt h1, topR_gt h1]
      have := ih _ (by rw [← hn]; exact abv_lt h1) (abv l) rfl
      have hp := rowsF_pos (abv l)
      rw [List.length_cons, Nat.add_sub_cancel]
      obtain ⟨q, hq⟩ : ∃ q, (rowsF (abv l)).length = q + 1 := ⟨_, (Nat.succ_pred_eq_of_pos hp).symm⟩
      rw [hq] at this ⊢
      simpa using this
theorem rowsF_bound : ∀ (l : Hs), (rowsF l).length ≤ l.length + 1 := by
  intro l
  induction hn : l.length using Nat.strongRecOn generalizing l with
  | _ n ih =>
    by_cases h1 : l.length ≤ 1
    · rw [rowsF_le h1]; simp
    · rw [rowsF_gt h1]
      have := ih _ (by rw [← hn]; exact abv_lt h1) (abv l) rfl
      have := abv_lt h1
      rw [List.length_cons]; omega
/-- A row that stands in a list of rows. -/
theorem RdE.row {w : World} {v : Value} {rs : List Hs} (h : RdE elR w v rs) : ∃ A c, v = .slice A rs.length c ∧ (0 < rs.length → ∃ b o, A = some ⟨b, o, none⟩ ∧ b < w.heap.size ∧ ∀ j r, rs[j]? = some r → ∃ u, w.cell? ⟨b, o + j, none⟩ = some u ∧ RdE elH w u r) := by
  obtain ⟨A, c, fs, rfl, h1, h2, h3, h4⟩ := h.parts
  refine ⟨A, c, rfl, fun hp => ?_⟩
  obtain ⟨b, o, rfl, hb, hc⟩ := h4 hp
  refine ⟨b, o, rfl, hb, fun j r hr => ?_⟩
  obtain ⟨hj, rfl⟩ := List.getElem?_eq_some_iff.1 hr
  obtain ⟨cs, hcl, ⟨u, rfl, hu⟩, hi⟩ := h3.at j hj
  obtain ⟨hf, hfe⟩ := hi 0 (by simp)
  refine ⟨u, ?_, hu.1⟩
  have hk : elR.k = 1 := rfl
  have := hc (j * elR.k + 0) hf
  rw [hfe] at this
  simpa [hk] using this

set_option maxRecDepth 100000 in
set_option maxHeartbeats 4000000 in
theorem rroot_any (v : Value) (l : Hs) (w : World) (hr : RdE elH w v l) (hn : l.length ≤ 1000) :
    Calls Tryd.prog 32 #[v] w fun e w' => e = .returned (.tuple #[.agg (hcel (rootH l)), .bool (rootB l)]) ∧ Nx w w' := by
  obtain ⟨hz, hzs⟩ := zero_of_info info_hash'
  change ∀ w, (zeroValue 30).run Tryd.prog w = .ok (.agg (hcel hZ)) w at hz
  have HRR := Lib.hid (fun W (h : Nx w W) => rrows_any v l W (hr.nx h) hn)
  have h32 := hr.h32
  have LR := Lib.hid (rootH_length h32)
  have LZ := Lib.hid hZ_length
  have HRH : Hid (rootH l = if rootB l then (topR l).getD 0 [] else hZ) := Lib.hid rfl
  have HTL : Hid (rootB l = true → (topR l).length = 1) := Lib.hid fun h => topR_length (by
    unfold rootB at h
    simp only [Bool.and_eq_true, decide_eq_true_eq] at h
    exact h.1)
  have HLA := Lib.hid (rowsF_last l)
  have HBD : Hid ((rowsF l).length ≤ 1001) := Lib.hid (by have := rowsF_bound l; omega)
  obtain ⟨q, hq⟩ : ∃ q, (rowsF l).length = q + 1 := ⟨(rowsF l).length - 1, by have := rowsF_pos l; omega⟩
  clear hr hn h32
  generalize rootH l = RH at *
  generalize rootB l = RB at *
  generalize hZ = ZZ at *
  generalize topR l = T at *
  generalize rowsF l = RF at *
  replace hq := Lib.hid hq
  have iR := Lib.hid (hashsz RH LR.out)
  have oR := Lib.hid (hashsame ZZ RH LZ.out LR.out)
  have R0 := Row.new w (hcel ZZ) 30 _ rfl
  have N0 := Lib.hid ((Nx.refl w).alloc (.cells (hcel ZZ) 30))
  go_enter Tryd.func32, Tryd.ntmps32
  go_wp2_with fail
  refine (HRR.out _ N0.out).mono ?_
  rintro e w1 ⟨v1, rfl, r1, n1⟩
  have R1 := R0.nx n1
  have N1 := Lib.hid (N0.out.trans n1)
  obtain ⟨A1, c1, rfl, hrow⟩ := r1.row
  clear r1 n1 R0 N0 HRR
  cases RB
  · have e1 : RH = ZZ := by rw [HRH.out]; rfl
    subst e1
    clear hrow
    go_wp2_with (refine wpList_store_row rfl 30 (.tmp 2) (.tmp 13) rfl w.heap.size (hcel RH) rfl rfl 30 (hcel RH) R1 iR.out rfl (hcel_one _) ?_)
    exact bodyPost_ret (results_cell_two Tryd.results32 _ _ w.heap.size 30 (hcel RH) (0, 0) _ rfl (R1.setRow _) Tryd.underlying30 rfl iR.out) rfl ⟨rfl, N1.out.setRow _ (Nat.le_refl _)⟩
  · have e1 : RH = T.getD 0 [] := by rw [HRH.out]; rfl
    have hrow2 := hrow (by rw [hq.out]; omega)
    clear hrow
    obtain ⟨b, o, rfl, hb, hrow⟩ := hrow2
    obtain ⟨u, hu, ru⟩ := hrow q T (by have := HLA.out; rw [hq.out] at this; exact this)
    obtain ⟨A2, c2, rfl, -, -, -, hcq⟩ := ru.h_parts
    have hT := HTL.out rfl
    have hcq2 := hcq (by rw [hT]; decide)
    clear hcq hrow
    obtain ⟨b2, o2, rfl, hb2, hcell⟩ := hcq2
    have C1 := Lib.hid (fun i u hu => getD_cells hcell 0 (by rw [hT]; decide) i u hu)
    rw [← e1] at C1
    simp only [Nat.zero_mul, Nat.add_zero] at C1
    rw [hq.out]
    rw [hT] at hu
    have hqb : (q : Int) ≤ 1001 := by have := HBD.out; rw [hq.out] at this; omega
    clear hcell ru hT e1 hb hb2
    have hqq : ((q + 1 : Nat) : Int) - 1 = (q : Int) := by omega
    go_wp2_with (first | (refine wpList_load_at rfl 30 (.tmp 20) rfl b2 o2 rfl (hcel RH) _ C1.out Tryd.underlying30 rfl iR.out ?_) | (refine wpList_store_row rfl 30 (.tmp 2) (.tmp 21) rfl w.heap.size (hcel RH) rfl rfl 30 (hcel ZZ) R1 iR.out oR.out (hcel_one _) ?_))
    exact bodyPost_ret (results_cell_two Tryd.results32 _ _ w.heap.size 30 (hcel RH) (0, 0) _ rfl (R1.setRow _) Tryd.underlying30 rfl iR.out) rfl ⟨rfl, N1.out.setRow _ (Nat.le_refl _)⟩
end Go.Proofs.YtjbeemoobmagnaaDoor
