/- LAYER 6: Less, of the program and of the document. -/
import Derived.Test.YtniaiglfgknfiaaCoinR7
import Derived.Test.YtniaiglfgknfiaaBCmp
import Derived.Deep.QuietTactic
import Derived.BigQuiet
namespace Go.Proofs.Ytniaiglfgknfiaa
open Go Go.RowKit
set_option linter.unusedVariables false
set_option linter.unusedSimpArgs false
set_option linter.unusedVariables false
set_option linter.unusedSimpArgs false

/-- Which bytes stand ahead. -/
def ltB : List UInt8 → List UInt8 → Bool
  | x :: l, y :: r => if x = y then ltB l r else decide (x < y)
  | _, _ => false
theorem ltB_compare : ∀ (l r : List UInt8), l.length = r.length → decide (Lib.compareBytes l r < 0) = ltB l r
  | [], [], _ => rfl
  | x :: l, y :: r, h => by
    have ih := ltB_compare l r (by simpa using h)
    unfold Lib.compareBytes ltB
    by_cases hxy : x = y
    · subst hxy
      have hlt : ¬ x < x := UInt8.lt_irrefl x
      rw [if_neg hlt, if_neg hlt, if_pos rfl]
      exact ih
    · rw [if_neg hxy]
      by_cases hlt : x < y
      · simp [hlt]
      · have : y < x := UInt8.lt_of_le_of_ne (UInt8.not_lt.1 hlt) (Ne.symm hxy)
        simp [hlt, this]
theorem ltB_at (l r : List UInt8) (k : Nat) (hk : l.take k = r.take k) (h1 : k < l.length) (h2 : k < r.length) (hne : l[k] ≠ r[k]) : ltB l r = decide (l[k] < r[k]) := by
  induction k generalizing l r with
  | zero =>
    cases l with
    | nil => simp at h1
    | cons x l => cases r with
      | nil => simp at h2
      | cons y r =>
        simp at hne
        simp [ltB, hne]
  | succ k ih =>
    cases l with
    | nil => simp at h1
    | cons x l => cases r with
      | nil => simp at h2
      | cons y r =>
        simp only [List.take_succ_cons, List.cons.injEq] at hk
        simp only [List.getElem_cons_succ] at hne ⊢
        unfold ltB
        rw [if_pos hk.1]
        exact ih l r hk.2 (by simpa using h1) (by simpa using h2) hne
/-- Which point stands ahead. -/
def ltP (tx : List UInt8) (n h : Nat) (ty : List UInt8) (m k : Nat) : Bool :=
  if tx ≠ ty then ltB tx ty else if n ≠ m then decide (n < m) else decide (h < k)

set_option maxRecDepth 100000 in
set_option maxHeartbeats 4000000 in
theorem rless_any (tx : List UInt8) (n h : Nat) (ty : List UInt8) (m k : Nat) (w : World) (hx : tx.length = 32) (hy : ty.length = 32) :
    Calls Try.prog 27 #[.agg (pcel tx n h), .agg (pcel ty m k)] w fun e w' => e = .returned (.bool (ltP tx n h ty m k)) ∧ Nx w w' := by
  have NN := Lib.hid (((Nx.refl w).alloc (.cells (pcel tx n h) 27)).alloc (.cells (pcel ty m k) 27))
  have K0 := (Row.new w (pcel tx n h) 27 _ rfl).alloc (.cells (pcel ty m k) 27)
  have K1 := Row.new2 w (.cells (pcel tx n h) 27) (pcel ty m k) 27
  have HLX := Lib.hid hx
  have HLY := Lib.hid hy
  have HX := Lib.hid (pcel_tx tx n h)
  have HY := Lib.hid (pcel_tx ty m k)
  have a32 := K0.cell (pcel_n tx n h hx)
  have b32 := K1.cell (pcel_n ty m k hy)
  have a33 := K0.cell (pcel_h tx n h hx)
  have b33 := K1.cell (pcel_h ty m k hy)
  have HK0 := Lib.hid K0
  have HK1 := Lib.hid K1
  clear hx hy K0 K1
  go_enter Try.func27, Try.ntmps27
  go_wp2_with fail
  generalize (w.alloc (.cells (pcel tx n h) 27)).alloc (.cells (pcel ty m k) 27) = W at *
  go_loopw [5] (fun i wr => ∃ j : Nat, j ≤ 32 ∧ i = .int .i64 j ∧ tx.take j = ty.take j ∧ ∃ q, wr = W.drewN q) (fun i _ => 32 - (intOf i).toNat)
  case atStart => exact ⟨0, by omega, rfl, by simp, 0, rfl⟩
  case round =>
    obtain ⟨j, hj, rfl, heq, q, rfl⟩ := hrel
    have HE := Lib.hid heq
    clear heq
    by_cases hlt : j < 32
    · have g1 : W.cell? ⟨w.heap.size, j, none⟩ = some (bv (tx[j]'(by have := HLX.out; omega))) := HK0.out.cell (HX.out j (by have := HLX.out; omega))
      have g2 : W.cell? ⟨w.heap.size + 1, j, none⟩ = some (bv (ty[j]'(by have := HLY.out; omega))) := HK1.out.cell (HY.out j (by have := HLY.out; omega))
      have hlt' : (j : Int) < 32 := by omega
      have hj0 : (0 : Int) ≤ (j : Int) := by omega
      generalize hxj : tx[j]'(by have := HLX.out; omega) = xj at *
      generalize hyj : ty[j]'(by have := HLY.out; omega) = yj at *
      have HXJ := Lib.hid hxj
      have HYJ := Lib.hid hyj
      clear hxj hyj
      have g1' : W.cell? ⟨w.heap.size, j, none⟩ = some (.int .u8 (xj.toNat : Int)) := g1
      have g2' : W.cell? ⟨w.heap.size + 1, j, none⟩ = some (.int .u8 (yj.toNat : Int)) := g2
      clear g1 g2
      by_cases hxy : xj = yj
      · subst hxy
        have hne : ((xj.toNat : Int) != (xj.toNat : Int)) = false := by simp
        go_wp2
        go_quiet (fail)
        go_wp2
        go_roundw
        case rel => exact ⟨j + 1, by omega, by go_num, by rw [List.take_add_one, List.take_add_one, HE.out, List.getElem?_eq_getElem (by have := HLX.out; omega), List.getElem?_eq_getElem (by have := HLY.out; omega), HXJ.out, HYJ.out], _, rfl⟩
        case measure => simp [intOf]; omega
      · have hne : ((xj.toNat : Int) != (yj.toNat : Int)) = true := by
          simp only [bne_iff_ne, ne_eq]
          intro e
          exact hxy (UInt8.toNat_inj.1 (by omega))
        have hlx : decide (xj.toNat < yj.toNat) = decide (xj < yj) := by
          rw [Bool.eq_iff_iff, decide_eq_true_iff, decide_eq_true_iff, UInt8.lt_iff_toNat_lt]
        have HF : Hid (ltP tx n h ty m k = decide (xj < yj)) := Lib.hid (by
          unfold ltP
          have hne2 : tx ≠ ty := fun e => hxy (by rw [← HXJ.out, ← HYJ.out]; subst e; rfl)
          rw [if_pos hne2, ltB_at tx ty j HE.out (by have := HLX.out; omega) (by have := HLY.out; omega) (by rw [HXJ.out, HYJ.out]; exact hxy), HXJ.out, HYJ.out])
        have HL := Lib.hid hlx
        clear hlx hxy
        go_wp2
        go_quiet (fail)
        go_wp2
        go_quiet (fail)
        go_wp2
        go_ret
        exact ⟨by rw [HF.out, ← HL.out]; rfl, ((NN.out.drewN _).drewN _).drewN _⟩
    · obtain rfl : j = 32 := by omega
      have hxy : tx = ty := by
        have := HE.out
        rwa [List.take_of_length_le (by have := HLX.out; omega), List.take_of_length_le (by have := HLY.out; omega)] at this
      have NF := Lib.hid (NN.out.trans ((Nx.refl W).drewN q))
      have HP : Hid (ltP tx n h ty m k = if n ≠ m then decide (n < m) else decide (h < k)) := Lib.hid (by unfold ltP; rw [if_neg (by simpa using hxy)])
      clear hxy HE hj NN
      by_cases hnm : n = m
      · have hne : ((n : Int) != (m : Int)) = false := by subst hnm; simp
        have HNM := Lib.hid hnm
        clear hnm
        go_wp2_with fail
        go_ret
        exact ⟨by rw [HP.out, if_neg (by simpa using HNM.out)]; rfl, NF.out⟩
      · have hne : ((n : Int) != (m : Int)) = true := by simp; omega
        have HNM := Lib.hid hnm
        clear hnm
        go_wp2_with fail
        go_ret
        exact ⟨by rw [HP.out, if_pos HNM.out]; rfl, NF.out⟩

theorem wp_lti_of {P : Program} {o : Oper} {a : Act} {w : World} {K : Act → World → Prop} {Q : Exit → Act → World → Prop} (dst : Option Tmp) (hd : o.dst = dst) (T : TypeId) (x y : Operand) (T' : TypeId) (ho : o.op = .binOp .lss T x y T') (k : IntKind) (z y' : Int)
    (hx : a.eval x = .int k z) (hy : a.eval y = .int k y') (h : K (a.put dst (.bool (decide (z < y')))) w) : o.wp P a w K Q := by
  refine wp_val_of dst hd (.bool (decide (z < y'))) ?_ h
  unfold execOp
  simp only [ho, hx, hy]
  have e1 : (eqGuard .lss T x y (.int k z) (.int k y')).run P w = .ok () w := by
    simp [eqGuard]
  have e2 : (binOp .lss T (.int k z) (.int k y')).run P w = .ok (.bool (decide (z < y'))) w := by
    simp [binOp, Op.intCmp]
  simp only [Sem.run_bind, e1, e2, Result.andThen_ok, Sem.run_pure]
theorem eq_txc (tx ty : List UInt8) (hx : tx.length = 32) (hy : ty.length = 32) (w : World) : (Op.equalIn 10000 23 (.agg (txc tx)) (.agg (txc ty))).run Try.prog w = .ok (decide (tx = ty)) w := by
  have := eq_ints (P := Try.prog) 9998 23 5 32 .u8 Try.underlying23 Try.underlying5 Try.isAgg5 Try.sizeOf5 (tx.map fun x => (x.toNat : Int)) (ty.map fun x => (x.toNat : Int)) (by simp [hx]) (by simp [hy]) w
  rw [← txc_asInts, ← txc_asInts] at this
  rw [this]
  congr 1
  rw [Bool.eq_iff_iff]
  simp only [decide_eq_true_eq]
  constructor
  · intro h
    have h2 : (tx.map fun x => (x.toNat : Int)).map (fun z : Int => UInt8.ofNat z.toNat) = (ty.map fun x => (x.toNat : Int)).map (fun z : Int => UInt8.ofNat z.toNat) := by rw [h]
    simpa [List.map_map, Function.comp_def] using h2
  · rintro rfl; rfl
theorem txc_sub (tx : List UInt8) (n h : Nat) (j : Nat) (v : Value) (hj : (txc tx)[j]? = some v) : (pcel tx n h)[j]? = some v := by
  unfold txc at hj
  unfold pcel pcl
  simp only [List.getElem?_toArray] at hj ⊢
  rw [List.getElem?_append_left (by simpa using (List.getElem?_eq_some_iff.1 hj).1)]
  exact hj
theorem txcsz (tx : List UInt8) (hx : tx.length = 32) : (Try.prog.info? 23).map (·.size) = some (txc tx).size := by
  rw [show (txc tx).size = 32 by simp [txc, bvs, hx]]
  kernel_rfl

set_option maxRecDepth 100000 in
set_option maxHeartbeats 4000000 in
theorem less_any (tx : List UInt8) (n h : Nat) (ty : List UInt8) (m k : Nat) (w : World) (hx : tx.length = 32) (hy : ty.length = 32) :
    Calls Try.prog 26 #[.agg (pcel tx n h), .agg (pcel ty m k)] w fun e w' => e = .returned (.bool (ltP tx n h ty m k)) ∧ Nx w w' := by
  have NN := Lib.hid (((Nx.refl w).alloc (.cells (pcel tx n h) 27)).alloc (.cells (pcel ty m k) 27))
  have K0 := (Row.new w (pcel tx n h) 27 _ rfl).alloc (.cells (pcel ty m k) 27)
  have K1 := Row.new2 w (.cells (pcel tx n h) 27) (pcel ty m k) 27
  have RX := Lib.hid (pcel_rd K0 hx)
  have RY := Lib.hid (pcel_rd K1 hy)
  have a32 := K0.cell (pcel_n tx n h hx)
  have b32 := K1.cell (pcel_n ty m k hy)
  have a33 := K0.cell (pcel_h tx n h hx)
  have b33 := K1.cell (pcel_h ty m k hy)
  have HC0 : Hid (∀ j v, (txc tx)[j]? = some v → ((w.alloc (.cells (pcel tx n h) 27)).alloc (.cells (pcel ty m k) 27)).cell? ⟨w.heap.size, j, none⟩ = some v) := Lib.hid (fun j v hj => K0.cell (txc_sub tx n h j v hj))
  have HC1 : Hid (∀ j v, (txc ty)[j]? = some v → ((w.alloc (.cells (pcel tx n h) 27)).alloc (.cells (pcel ty m k) 27)).cell? ⟨w.heap.size + 1, j, none⟩ = some v) := Lib.hid (fun j v hj => K1.cell (txc_sub ty m k j v hj))
  have ix := Lib.hid (txcsz tx hx)
  have iy := Lib.hid (txcsz ty hy)
  have HEQ := Lib.hid (fun w => eq_txc tx ty hx hy w)
  have HSL0 := Lib.hid (fun w' => slice_arr_all (P := Try.prog) 23 5 32 Try.underlying23 Try.sizeOf5 w.heap.size (by omega) w')
  have HSL1 := Lib.hid (fun w' => slice_arr_all (P := Try.prog) 23 5 32 Try.underlying23 Try.sizeOf5 (w.heap.size + 1) (by omega) w')
  have HLB := Lib.hid (ltB_compare tx ty (by omega))
  have HBC := Lib.hid (fun w v1 v2 h1 h2 => bcompare_any v1 v2 tx ty w h1 h2)
  have HXY : Hid (tx = ty ∨ tx ≠ ty) := Lib.hid (Decidable.em _)
  clear hx hy K0 K1
  generalize Lib.compareBytes tx ty = Z at *
  rcases HXY.out with hxy | hxy
  · have HQ : Hid (∀ w : World, (Op.equalIn 10000 23 (.agg (txc tx)) (.agg (txc ty))).run Try.prog w = .ok true w) := Lib.hid fun w => (HEQ.out w).trans (by simp [hxy])
    have HP : Hid (ltP tx n h ty m k = if n ≠ m then decide (n < m) else decide (h < k)) := Lib.hid (by unfold ltP; rw [if_neg (by simpa using hxy)])
    clear hxy HEQ HXY
    by_cases hnm : n = m
    · have hne : ((n : Int) != (m : Int)) = false := by subst hnm; simp
      have HNM := Lib.hid hnm
      clear hnm
      go_enter Try.func26, Try.ntmps26
      go_wp2_with (first | (refine wpList_load_at rfl 23 (.tmp 5) rfl (w.heap.size) 0 rfl (txc tx) _ (fun j x hj => by rw [Nat.zero_add]; exact HC0.out j x hj) Try.underlying23 rfl ix.out ?_) | (refine wpList_load_at rfl 23 (.tmp 7) rfl (w.heap.size + 1) 0 rfl (txc ty) _ (fun j x hj => by rw [Nat.zero_add]; exact HC1.out j x hj) Try.underlying23 rfl iy.out ?_) | (refine wpList_val (some 9) rfl rfl (.bool false) (run_neqp 23 (.tmp 6) (.tmp 8) _ rfl _ _ rfl rfl (by kernel_rfl) true (HQ.out _)) ?_))
      go_ret
      exact ⟨by rw [HP.out, if_neg (by simpa using HNM.out)]; rfl, NN.out⟩
    · have hne : ((n : Int) != (m : Int)) = true := by simp; omega
      have HNM := Lib.hid hnm
      clear hnm
      go_enter Try.func26, Try.ntmps26
      go_wp2_with (first | (refine wpList_load_at rfl 23 (.tmp 5) rfl (w.heap.size) 0 rfl (txc tx) _ (fun j x hj => by rw [Nat.zero_add]; exact HC0.out j x hj) Try.underlying23 rfl ix.out ?_) | (refine wpList_load_at rfl 23 (.tmp 7) rfl (w.heap.size + 1) 0 rfl (txc ty) _ (fun j x hj => by rw [Nat.zero_add]; exact HC1.out j x hj) Try.underlying23 rfl iy.out ?_) | (refine wpList_val (some 9) rfl rfl (.bool false) (run_neqp 23 (.tmp 6) (.tmp 8) _ rfl _ _ rfl rfl (by kernel_rfl) true (HQ.out _)) ?_))
      go_ret
      exact ⟨by rw [HP.out, if_pos HNM.out]; rfl, NN.out⟩
  · have HQ : Hid (∀ w : World, (Op.equalIn 10000 23 (.agg (txc tx)) (.agg (txc ty))).run Try.prog w = .ok false w) := Lib.hid fun w => (HEQ.out w).trans (by simp [hxy])
    have HP : Hid (ltP tx n h ty m k = decide (Z < 0)) := Lib.hid (by unfold ltP; rw [if_pos hxy, HLB.out])
    clear hxy HEQ HXY HLB a32 b32 a33 b33
    go_enter Try.func26, Try.ntmps26
    go_wp2_with (first | (refine wpList_load_at rfl 23 (.tmp 5) rfl (w.heap.size) 0 rfl (txc tx) _ (fun j x hj => by rw [Nat.zero_add]; exact HC0.out j x hj) Try.underlying23 rfl ix.out ?_) | (refine wpList_load_at rfl 23 (.tmp 7) rfl (w.heap.size + 1) 0 rfl (txc ty) _ (fun j x hj => by rw [Nat.zero_add]; exact HC1.out j x hj) Try.underlying23 rfl iy.out ?_) | (refine wpList_val (some 9) rfl rfl (.bool true) (run_neqp 23 (.tmp 6) (.tmp 8) _ rfl _ _ rfl rfl (by kernel_rfl) false (HQ.out _)) ?_))
    clear HC0 HC1
    generalize (w.alloc (.cells (pcel tx n h) 27)).alloc (.cells (pcel ty m k) 27) = W at *
    simp only [Act.put, List.setIfInBounds_toArray, List.set_cons_zero, List.set_cons_succ]
    refine wp_region_nx 7 [[], [0], [], [2], [1, 3], [4], [5, 4, 0, 1, 2, 3, 4, 5]] [some 10, some 11, some 12, some 13, some 14, some 15, some 4]
      [.eq (.pointer (some ⟨w.heap.size, 0, none⟩)), .eq (.slice (some ⟨w.heap.size, 0, none⟩) 32 32), .eq (.pointer (some ⟨w.heap.size + 1, 0, none⟩)), .eq (.slice (some ⟨w.heap.size + 1, 0, none⟩) 32 32), .eq (.int .i64 Z), .eq (.bool (decide (Z < 0))), .eq (.bool (decide (Z < 0)))]
      (by kernel_rfl) (by kernel_rfl) (hord_of (by decide)) (by kernel_rfl) (by decide) (by decide) (htail_of (by decide)) ?_ _ (by rfl) ?_
    · intro x tm wr htm hx i hi hd K hK
      simp only [fillA, List.setIfInBounds_toArray, List.set_cons_zero, List.set_cons_succ] at htm
      subst htm
      have hcs : i = 0 ∨ i = 1 ∨ i = 2 ∨ i = 3 ∨ i = 4 ∨ i = 5 ∨ i = 6 := by omega
      clear hi
      rcases hcs with rfl | rfl | rfl | rfl | rfl | rfl | rfl
      · exact wpOp_of rfl rfl (wp_val_of (some 10) rfl (.pointer (some ⟨w.heap.size, 0, none⟩)) (by kernel_rfl) (hK _ _ rfl (Nx.refl _)))
      · have e0 : x 0 = .pointer (some ⟨w.heap.size, 0, none⟩) := hd 0 (by decide)
        generalize x 0 = y0 at e0 hK ⊢
        subst e0
        exact wpOp_of rfl rfl (wp_slice_of (some 11) rfl 23 (.tmp 10) none none none rfl (.slice (some ⟨w.heap.size, 0, none⟩) 32 32) (HSL0.out wr) (hK _ _ rfl (Nx.refl _)))
      · exact wpOp_of rfl rfl (wp_val_of (some 12) rfl (.pointer (some ⟨w.heap.size + 1, 0, none⟩)) (by kernel_rfl) (hK _ _ rfl (Nx.refl _)))
      · have e2 : x 2 = .pointer (some ⟨w.heap.size + 1, 0, none⟩) := hd 2 (by decide)
        generalize x 2 = y2 at e2 hK ⊢
        subst e2
        exact wpOp_of rfl rfl (wp_slice_of (some 13) rfl 23 (.tmp 12) none none none rfl (.slice (some ⟨w.heap.size + 1, 0, none⟩) 32 32) (HSL1.out wr) (hK _ _ rfl (Nx.refl _)))
      · have e1 : x 1 = .slice (some ⟨w.heap.size, 0, none⟩) 32 32 := hd 1 (by decide)
        have e3 : x 3 = .slice (some ⟨w.heap.size + 1, 0, none⟩) 32 32 := hd 3 (by decide)
        generalize x 1 = y1 at e1 hK ⊢
        subst e1
        generalize x 3 = y3 at e3 hK ⊢
        subst e3
        refine wpOp_of rfl rfl (wp_call_of (some 14) rfl 48 #[(.slice (some ⟨w.heap.size, 0, none⟩) 32 32), (.slice (some ⟨w.heap.size + 1, 0, none⟩) 32 32)] (by kernel_rfl) (.int .i64 Z) ?_ (fun w' h => hK _ w' rfl h))
        exact HBC.out wr _ _ (RX.out.nx hx) (RY.out.nx hx)
      · have e4 : x 4 = .int .i64 Z := hd 4 (by decide)
        generalize x 4 = y4 at e4 hK ⊢
        subst e4
        exact wpOp_of rfl rfl (wp_lti_of (some 15) rfl _ _ _ _ rfl .i64 Z 0 rfl rfl (hK _ _ rfl (Nx.refl _)))
      · have e5 : x 5 = .bool (decide (Z < 0)) := hd 5 (by decide)
        generalize x 5 = y5 at e5 hK ⊢
        subst e5
        exact wpOp_of rfl rfl (wp_val_of (some 4) rfl (.bool (decide (Z < 0))) (by kernel_rfl) (hK _ _ rfl (Nx.refl _)))
    · intro x tm wr htm hx hv
      simp only [fillA, List.setIfInBounds_toArray, List.set_cons_zero, List.set_cons_succ] at htm
      subst htm
      have e6 : x 6 = .bool (decide (Z < 0)) := hv 6 (by decide)
      rw [e6]
      refine wpList_nil ?_
      go_wp2_with fail
      go_ret
      exact ⟨by rw [HP.out]; rfl, NN.out.trans hx⟩
end Go.Proofs.Ytniaiglfgknfiaa
