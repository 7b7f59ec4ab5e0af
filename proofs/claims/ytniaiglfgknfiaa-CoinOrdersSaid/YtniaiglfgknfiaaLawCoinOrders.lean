/- LAYER 6: the walk of CoinOrders. -/
import Derived.Test.YtniaiglfgknfiaaCoinL
import Derived.Test.YtniaiglfgknfiaaLawCoinGets
namespace Go.Proofs.Ytniaiglfgknfiaa
open Go Go.RowKit
set_option linter.unusedVariables false
set_option linter.unusedSimpArgs false
set_option linter.unusedVariables false
set_option linter.unusedSimpArgs false

theorem ltB_self : ∀ (l : List UInt8), ltB l l = false
  | [] => rfl
  | x :: l => by unfold ltB; rw [if_pos rfl]; exact ltB_self l
theorem ltB_other : ∀ (l r : List UInt8), l.length = r.length → l ≠ r → ltB l r = !ltB r l
  | [], [], _, h => absurd rfl h
  | x :: l, y :: r, hl, h => by
    unfold ltB
    by_cases hxy : x = y
    · subst hxy
      rw [if_pos rfl, if_pos rfl]
      exact ltB_other l r (by simpa using hl) (fun e => h (by rw [e]))
    · rw [if_neg hxy, if_neg (Ne.symm hxy)]
      have hne : x.toNat ≠ y.toNat := fun e => hxy (UInt8.toNat_inj.1 e)
      by_cases hlt : x.toNat < y.toNat
      · have h1 : x < y := UInt8.lt_iff_toNat_lt.2 hlt
        have h2 : ¬ y < x := fun e => by have := UInt8.lt_iff_toNat_lt.1 e; omega
        simp [h1, h2]
      · have h1 : ¬ x < y := fun e => hlt (UInt8.lt_iff_toNat_lt.1 e)
        have h2 : y < x := UInt8.lt_iff_toNat_lt.2 (by omega)
        simp [h1, h2]
theorem ltB_trans : ∀ (l r s : List UInt8), l.length = r.length → r.length = s.length → ltB l r = true → ltB r s = true → ltB l s = true
  | x :: l, y :: r, z :: s, h1, h2, ha, hb => by
    unfold ltB at ha hb ⊢
    by_cases hxy : x = y
    · subst hxy
      rw [if_pos rfl] at ha
      by_cases hxz : x = z
      · subst hxz
        rw [if_pos rfl] at hb
        rw [if_pos rfl]
        exact ltB_trans l r s (by simpa using h1) (by simpa using h2) ha hb
      · rw [if_neg hxz] at hb
        rw [if_neg hxz]; exact hb
    · rw [if_neg hxy] at ha
      have ha' := UInt8.lt_iff_toNat_lt.1 (of_decide_eq_true ha)
      by_cases hyz : y = z
      · subst hyz
        rw [if_neg hxy]; exact ha
      · rw [if_neg hyz] at hb
        have hb' := UInt8.lt_iff_toNat_lt.1 (of_decide_eq_true hb)
        have hxz : x ≠ z := fun e => by subst e; omega
        rw [if_neg hxz]
        exact decide_eq_true (UInt8.lt_iff_toNat_lt.2 (by omega))
  | [], [], [], _, _, ha, _ => by cases ha
theorem ltP_self (ax : List UInt8) (an ah : Nat) : ltP ax an ah ax an ah = false := by simp [ltP]
theorem ltP_other (ax : List UInt8) (an ah : Nat) (bx : List UInt8) (bn bh : Nat) (hl : ax.length = bx.length) (h : ¬ (ax = bx ∧ an = bn ∧ ah = bh)) : ltP ax an ah bx bn bh = !ltP bx bn bh ax an ah := by
  unfold ltP
  by_cases h1 : ax = bx
  · subst h1
    simp only [ne_eq, not_true_eq_false, if_false]
    by_cases h2 : an = bn
    · subst h2
      simp only [ne_eq, not_true_eq_false, if_false]
      have : ah ≠ bh := fun e => h ⟨rfl, rfl, e⟩
      rw [Bool.eq_iff_iff, decide_eq_true_iff, Bool.not_eq_true', decide_eq_false_iff_not]
      omega
    · simp only [h2, Ne.symm h2, not_false_eq_true, if_true]
      rw [Bool.eq_iff_iff, decide_eq_true_iff, Bool.not_eq_true', decide_eq_false_iff_not]
      omega
  · rw [if_pos h1, if_pos (Ne.symm h1)]
    exact ltB_other _ _ hl h1
theorem ltP_trans (ax : List UInt8) (an ah : Nat) (bx : List UInt8) (bn bh : Nat) (cx : List UInt8) (cn ch : Nat) (hl : ax.length = bx.length) (hm : bx.length = cx.length)
    (h1 : ltP ax an ah bx bn bh = true) (h2 : ltP bx bn bh cx cn ch = true) : ltP ax an ah cx cn ch = true := by
  unfold ltP at *
  by_cases e1 : ax = bx
  · subst e1
    rw [if_neg (by simp)] at h1
    by_cases e2 : ax = cx
    · subst e2
      rw [if_neg (by simp)] at h2 ⊢
      by_cases f1 : an = bn
      · subst f1
        rw [if_neg (by simp)] at h1
        by_cases f2 : an = cn
        · subst f2
          rw [if_neg (by simp)] at h2 ⊢
          have := of_decide_eq_true h1
          have := of_decide_eq_true h2
          exact decide_eq_true (by omega)
        · rw [if_pos f2] at h2 ⊢; exact h2
      · rw [if_pos f1] at h1
        have g1 := of_decide_eq_true h1
        by_cases f2 : bn = cn
        · subst f2
          rw [if_pos f1]; exact h1
        · rw [if_pos f2] at h2
          have g2 := of_decide_eq_true h2
          rw [if_pos (by omega)]
          exact decide_eq_true (by omega)
    · rw [if_pos e2] at h2 ⊢; exact h2
  · rw [if_pos e1] at h1
    by_cases e2 : bx = cx
    · subst e2
      rw [if_pos e1]; exact h1
    · rw [if_pos e2] at h2
      have h3 := ltB_trans _ _ _ hl hm h1 h2
      have : ax ≠ cx := fun e => by
        subst e
        rw [ltB_other _ _ hl e1, h2] at h1
        cases h1
      rw [if_pos this]; exact h3

set_option maxRecDepth 100000 in
set_option maxHeartbeats 8000000 in
theorem coinOrders_law {w : World} (ax : List UInt8) (an ah : Nat) (ha : ax.length = 32) (han : an < 65536) (hah : ah < 4294967296) (bx : List UInt8) (bn bh : Nat) (hb : bx.length = 32) (hbn : bn < 65536) (hbh : bh < 4294967296)
    (cx : List UInt8) (cn ch : Nat) (hc : cx.length = 32) (hcn : cn < 65536) (hch : ch < 4294967296) :
    Calls Try.prog 6 #[.agg (pcel ax an ah), .agg (pcel bx bn bh), .agg (pcel cx cn ch)] w fun e w' => e = .returned (.bool true) ∧ Nx w w' := by
  have HAB := Lib.hid (fun w => less_any ax an ah bx bn bh w ha hb)
  have HBA := Lib.hid (fun w => less_any bx bn bh ax an ah w hb ha)
  have HBC := Lib.hid (fun w => less_any bx bn bh cx cn ch w hb hc)
  have HAC := Lib.hid (fun w => less_any ax an ah cx cn ch w ha hc)
  have HRE := Lib.hid (fun w => rless_any ax an ah bx bn bh w ha hb)
  have HEQ := Lib.hid (fun w => eq_point2 ax bx an ah bn bh ha hb w)
  have za := Lib.hid (pointsz ax an ah ha)
  have zb := Lib.hid (pointsz bx bn bh hb)
  have zc := Lib.hid (pointsz cx cn ch hc)
  have HT := Lib.hid (fun h1 h2 => ltP_trans ax an ah bx bn bh cx cn ch (by omega) (by omega) h1 h2)
  have HO := Lib.hid (fun hne => ltP_other ax an ah bx bn bh (by omega) hne)
  have HD : Hid ((ax = bx ∧ an = bn ∧ ah = bh) ∨ ¬ (ax = bx ∧ an = bn ∧ ah = bh)) := Lib.hid (Decidable.em _)
  have HS : Hid ((ax = bx ∧ an = bn ∧ ah = bh) → ltP ax an ah bx bn bh = false ∧ ltP bx bn bh ax an ah = false) := Lib.hid (by rintro ⟨rfl, rfl, rfl⟩; exact ⟨ltP_self _ _ _, ltP_self _ _ _⟩)
  have RA0 := Lib.hid (((Row.new w (pcel ax an ah) 27 _ rfl).alloc (.cells (pcel bx bn bh) 27)).alloc (.cells (pcel cx cn ch) 27))
  have RB0 := Lib.hid ((Row.new2 w (.cells (pcel ax an ah) 27) (pcel bx bn bh) 27).alloc (.cells (pcel cx cn ch) 27))
  have RC0 := Lib.hid (Row.new3 w (.cells (pcel ax an ah) 27) (.cells (pcel bx bn bh) 27) (pcel cx cn ch) 27)
  have NW := Lib.hid ((((Nx.refl w).alloc (.cells (pcel ax an ah) 27)).alloc (.cells (pcel bx bn bh) 27)).alloc (.cells (pcel cx cn ch) 27))
  clear ha han hah hb hbn hbh hc hcn hch
  generalize ltP ax an ah bx bn bh = P at *
  generalize ltP bx bn bh ax an ah = Q at *
  generalize ltP bx bn bh cx cn ch = S at *
  generalize ltP ax an ah cx cn ch = T at *
  rcases HD.out with hd | hd
  · obtain ⟨rfl, rfl⟩ := HS.out hd
    have HQ : Hid (∀ w : World, (Op.equalIn 10000 27 (.agg (pcel ax an ah)) (.agg (pcel bx bn bh))).run Try.prog w = .ok true w) := Lib.hid fun w => (HEQ.out w).trans (by simp [hd.1, hd.2.1, hd.2.2])
    clear hd HS HO HT HEQ HD
    go_enter Try.func6, Try.ntmps6
    go_wp2_with fail
    have RA := RA0.out
    have RB := RB0.out
    have RC := RC0.out
    clear RA0 RB0 RC0
    generalize ((w.alloc (.cells (pcel ax an ah) 27)).alloc (.cells (pcel bx bn bh) 27)).alloc (.cells (pcel cx cn ch) 27) = W at *
    refine wp_region_nx 8 [[], [], [0, 1], [], [], [3, 4, 2], [2, 5, 0, 1, 2], [5, 6, 0, 1, 2, 3, 4, 5, 6]] [some 9, some 10, some 11, some 12, some 13, some 14, some 7, some 8]
      [.eq (.agg (pcel ax an ah)), .eq (.agg (pcel bx bn bh)), .eq (.bool false), .eq (.agg (pcel bx bn bh)), .eq (.agg (pcel ax an ah)), .eq (.bool false), .eq (.bool false), .eq (.bool false)]
      (by kernel_rfl) (by kernel_rfl) (hord_of (by decide)) (by kernel_rfl) (by decide) (by decide) (htail_of (by decide)) ?_ _ (by rfl) ?_
    · intro x tm wr htm hx i hi hd K hK
      simp only [fillA, List.setIfInBounds_toArray, List.set_cons_zero, List.set_cons_succ] at htm
      subst htm
      have hcs : i = 0 ∨ i = 1 ∨ i = 2 ∨ i = 3 ∨ i = 4 ∨ i = 5 ∨ i = 6 ∨ i = 7 := by omega
      clear hi
      rcases hcs with rfl | rfl | rfl | rfl | rfl | rfl | rfl | rfl
      · exact wpOp_of rfl rfl (wp_load_row_of (some 9) rfl 27 (.tmp 3) rfl (w.heap.size) rfl 27 (pcel ax an ah) _ (RA.nx hx) Try.underlying27 rfl za.out (hK _ _ rfl (Nx.refl _)))
      · exact wpOp_of rfl rfl (wp_load_row_of (some 10) rfl 27 (.tmp 4) rfl (w.heap.size + 1) rfl 27 (pcel bx bn bh) _ (RB.nx hx) Try.underlying27 rfl zb.out (hK _ _ rfl (Nx.refl _)))
      · have e0 : x 0 = .agg (pcel ax an ah) := hd 0 (by decide)
        have e1 : x 1 = .agg (pcel bx bn bh) := hd 1 (by decide)
        generalize x 0 = y0 at e0 hK ⊢
        subst e0
        generalize x 1 = y1 at e1 hK ⊢
        subst e1
        refine wpOp_of rfl rfl (wp_call_of (some 11) rfl 26 #[(.agg (pcel ax an ah)), (.agg (pcel bx bn bh))] (by kernel_rfl) (.bool false) ?_ (fun w' h => hK _ w' rfl h))
        exact HAB.out wr
      · exact wpOp_of rfl rfl (wp_load_row_of (some 12) rfl 27 (.tmp 4) rfl (w.heap.size + 1) rfl 27 (pcel bx bn bh) _ (RB.nx hx) Try.underlying27 rfl zb.out (hK _ _ rfl (Nx.refl _)))
      · exact wpOp_of rfl rfl (wp_load_row_of (some 13) rfl 27 (.tmp 3) rfl (w.heap.size) rfl 27 (pcel ax an ah) _ (RA.nx hx) Try.underlying27 rfl za.out (hK _ _ rfl (Nx.refl _)))
      · have e3 : x 3 = .agg (pcel bx bn bh) := hd 3 (by decide)
        have e4 : x 4 = .agg (pcel ax an ah) := hd 4 (by decide)
        have e2 : x 2 = .bool false := hd 2 (by decide)
        generalize x 3 = y3 at e3 hK ⊢
        subst e3
        generalize x 4 = y4 at e4 hK ⊢
        subst e4
        generalize x 2 = y2 at e2 hK ⊢
        subst e2
        refine wpOp_of rfl rfl (wp_call_of (some 14) rfl 26 #[(.agg (pcel bx bn bh)), (.agg (pcel ax an ah))] (by kernel_rfl) (.bool false) ?_ (fun w' h => hK _ w' rfl h))
        exact HBA.out wr
      · have e2 : x 2 = .bool false := hd 2 (by decide)
        generalize x 2 = y2 at e2 hK ⊢
        subst e2
        exact wpOp_of rfl rfl (wp_val_of (some 7) rfl (.bool false) (by kernel_rfl) (hK _ _ rfl (Nx.refl _)))
      · have e5 : x 5 = .bool false := hd 5 (by decide)
        generalize x 5 = y5 at e5 hK ⊢
        subst e5
        exact wpOp_of rfl rfl (wp_val_of (some 8) rfl (.bool false) (by kernel_rfl) (hK _ _ rfl (Nx.refl _)))
    · intro x tm wr htm hx hv
      simp only [fillA, List.setIfInBounds_toArray, List.set_cons_zero, List.set_cons_succ] at htm
      subst htm
      have e6 : x 6 = .bool false := hv 6 (by decide)
      rw [e6]
      have e7 : x 7 = .bool false := hv 7 (by decide)
      rw [e7]
      refine wpList_nil ?_
      have RA2 := RA.nx hx
      have RB2 := RB.nx hx
      have RC2 := RC.nx hx
      have NX := Lib.hid (NW.out.trans hx)
      clear RA RB RC hv hx NW
      go_wp2_with (first | (refine wpList_load_row rfl 27 (.tmp 3) rfl (w.heap.size) rfl 27 (pcel ax an ah) (0, 0) _ RA2 Try.underlying27 rfl za.out ?_) | (refine wpList_load_row rfl 27 (.tmp 4) rfl (w.heap.size + 1) rfl 27 (pcel bx bn bh) (0, 0) _ RB2 Try.underlying27 rfl zb.out ?_) | (refine wpList_g (by rfl) fun K hK => wp_load_row_of (some 25) rfl 27 (.tmp 3) rfl (w.heap.size) rfl 27 (pcel ax an ah) _ RA2 Try.underlying27 rfl za.out (hK _ _ ?_)) | (refine wpList_g (by rfl) fun K hK => wp_load_row_of (some 26) rfl 27 (.tmp 4) rfl (w.heap.size + 1) rfl 27 (pcel bx bn bh) _ RB2 Try.underlying27 rfl zb.out (hK _ _ ?_)) | (refine wpList_g (by rfl) fun K hK => wp_load_row_of (some 36) rfl 27 (.tmp 4) rfl (w.heap.size + 1) rfl 27 (pcel bx bn bh) _ RB2 Try.underlying27 rfl zb.out (hK _ _ ?_)) | (refine wpList_g (by rfl) fun K hK => wp_load_row_of (some 37) rfl 27 (.tmp 5) rfl (w.heap.size + 1 + 1) rfl 27 (pcel cx cn ch) _ RC2 Try.underlying27 rfl zc.out (hK _ _ ?_)) | (refine wpList_g (by rfl) fun K hK => wp_load_row_of (some 41) rfl 27 (.tmp 3) rfl (w.heap.size) rfl 27 (pcel ax an ah) _ RA2 Try.underlying27 rfl za.out (hK _ _ ?_)) | (refine wpList_g (by rfl) fun K hK => wp_load_row_of (some 42) rfl 27 (.tmp 5) rfl (w.heap.size + 1 + 1) rfl 27 (pcel cx cn ch) _ RC2 Try.underlying27 rfl zc.out (hK _ _ ?_)) | (refine wpList_load_row rfl 27 (.tmp 3) rfl (w.heap.size) rfl 27 (pcel ax an ah) (0, 0) _ RA2 Try.underlying27 rfl za.out ?_) | (refine wpList_load_row rfl 27 (.tmp 4) rfl (w.heap.size + 1) rfl 27 (pcel bx bn bh) (0, 0) _ RB2 Try.underlying27 rfl zb.out ?_) | (refine wpList_val (some 17) rfl rfl (.bool true) (run_eqp 27 (.tmp 15) (.tmp 16) _ rfl _ _ rfl rfl (by kernel_rfl) _ (HQ.out _)) ?_) | (refine wpList_g (by rfl) fun K hK => wp_val_of (some 27) rfl (.bool false) (run_neqp 27 (.tmp 25) (.tmp 26) _ rfl _ _ rfl rfl (by kernel_rfl) true (HQ.out _)) (hK _ _ ?_)))
      refine (HRE.out _).mono ?_
      rintro e W8 ⟨rfl, n8⟩
      replace RA2 := RA2.nx n8
      replace RB2 := RB2.nx n8
      replace RC2 := RC2.nx n8
      replace NX := Lib.hid (NX.out.trans n8)
      clear n8
      go_wp2_with fail
      refine (works_any _).mono ?_
      rintro e W9 ⟨rfl, n9⟩
      replace NX := Lib.hid (NX.out.trans n9)
      clear n9
      go_wp2_with fail
      go_ret
      exact ⟨rfl, NX.out⟩
  · have HQ : Hid (∀ w : World, (Op.equalIn 10000 27 (.agg (pcel ax an ah)) (.agg (pcel bx bn bh))).run Try.prog w = .ok false w) := Lib.hid fun w => (HEQ.out w).trans (by
        congr 1
        rw [Bool.and_eq_false_iff, Bool.and_eq_false_iff, decide_eq_false_iff_not, decide_eq_false_iff_not, decide_eq_false_iff_not]
        by_cases g1 : ax = bx
        · by_cases g2 : an = bn
          · exact .inr (.inr fun g3 => hd ⟨g1, g2, g3⟩)
          · exact .inr (.inl g2)
        · exact .inl g1)
    have HPQ := Lib.hid (HO.out hd)
    clear hd HS HO HEQ HD
    rcases P with _ | _
    · obtain rfl : Q = true := by have := HPQ.out; revert this; cases Q <;> simp
      clear HPQ HT
      go_enter Try.func6, Try.ntmps6
      go_wp2_with fail
      have RA := RA0.out
      have RB := RB0.out
      have RC := RC0.out
      clear RA0 RB0 RC0
      generalize ((w.alloc (.cells (pcel ax an ah) 27)).alloc (.cells (pcel bx bn bh) 27)).alloc (.cells (pcel cx cn ch) 27) = W at *
      refine wp_region_nx 8 [[], [], [0, 1], [], [], [3, 4, 2], [2, 5, 0, 1, 2], [5, 6, 0, 1, 2, 3, 4, 5, 6]] [some 9, some 10, some 11, some 12, some 13, some 14, some 7, some 8]
        [.eq (.agg (pcel ax an ah)), .eq (.agg (pcel bx bn bh)), .eq (.bool false), .eq (.agg (pcel bx bn bh)), .eq (.agg (pcel ax an ah)), .eq (.bool true), .eq (.bool false), .eq (.bool true)]
        (by kernel_rfl) (by kernel_rfl) (hord_of (by decide)) (by kernel_rfl) (by decide) (by decide) (htail_of (by decide)) ?_ _ (by rfl) ?_
      · intro x tm wr htm hx i hi hd K hK
        simp only [fillA, List.setIfInBounds_toArray, List.set_cons_zero, List.set_cons_succ] at htm
        subst htm
        have hcs : i = 0 ∨ i = 1 ∨ i = 2 ∨ i = 3 ∨ i = 4 ∨ i = 5 ∨ i = 6 ∨ i = 7 := by omega
        clear hi
        rcases hcs with rfl | rfl | rfl | rfl | rfl | rfl | rfl | rfl
        · exact wpOp_of rfl rfl (wp_load_row_of (some 9) rfl 27 (.tmp 3) rfl (w.heap.size) rfl 27 (pcel ax an ah) _ (RA.nx hx) Try.underlying27 rfl za.out (hK _ _ rfl (Nx.refl _)))
        · exact wpOp_of rfl rfl (wp_load_row_of (some 10) rfl 27 (.tmp 4) rfl (w.heap.size + 1) rfl 27 (pcel bx bn bh) _ (RB.nx hx) Try.underlying27 rfl zb.out (hK _ _ rfl (Nx.refl _)))
        · have e0 : x 0 = .agg (pcel ax an ah) := hd 0 (by decide)
          have e1 : x 1 = .agg (pcel bx bn bh) := hd 1 (by decide)
          generalize x 0 = y0 at e0 hK ⊢
          subst e0
          generalize x 1 = y1 at e1 hK ⊢
          subst e1
          refine wpOp_of rfl rfl (wp_call_of (some 11) rfl 26 #[(.agg (pcel ax an ah)), (.agg (pcel bx bn bh))] (by kernel_rfl) (.bool false) ?_ (fun w' h => hK _ w' rfl h))
          exact HAB.out wr
        · exact wpOp_of rfl rfl (wp_load_row_of (some 12) rfl 27 (.tmp 4) rfl (w.heap.size + 1) rfl 27 (pcel bx bn bh) _ (RB.nx hx) Try.underlying27 rfl zb.out (hK _ _ rfl (Nx.refl _)))
        · exact wpOp_of rfl rfl (wp_load_row_of (some 13) rfl 27 (.tmp 3) rfl (w.heap.size) rfl 27 (pcel ax an ah) _ (RA.nx hx) Try.underlying27 rfl za.out (hK _ _ rfl (Nx.refl _)))
        · have e3 : x 3 = .agg (pcel bx bn bh) := hd 3 (by decide)
          have e4 : x 4 = .agg (pcel ax an ah) := hd 4 (by decide)
          have e2 : x 2 = .bool false := hd 2 (by decide)
          generalize x 3 = y3 at e3 hK ⊢
          subst e3
          generalize x 4 = y4 at e4 hK ⊢
          subst e4
          generalize x 2 = y2 at e2 hK ⊢
          subst e2
          refine wpOp_of rfl rfl (wp_call_of (some 14) rfl 26 #[(.agg (pcel bx bn bh)), (.agg (pcel ax an ah))] (by kernel_rfl) (.bool true) ?_ (fun w' h => hK _ w' rfl h))
          exact HBA.out wr
        · have e2 : x 2 = .bool false := hd 2 (by decide)
          generalize x 2 = y2 at e2 hK ⊢
          subst e2
          exact wpOp_of rfl rfl (wp_val_of (some 7) rfl (.bool false) (by kernel_rfl) (hK _ _ rfl (Nx.refl _)))
        · have e5 : x 5 = .bool true := hd 5 (by decide)
          generalize x 5 = y5 at e5 hK ⊢
          subst e5
          exact wpOp_of rfl rfl (wp_val_of (some 8) rfl (.bool true) (by kernel_rfl) (hK _ _ rfl (Nx.refl _)))
      · intro x tm wr htm hx hv
        simp only [fillA, List.setIfInBounds_toArray, List.set_cons_zero, List.set_cons_succ] at htm
        subst htm
        have e6 : x 6 = .bool false := hv 6 (by decide)
        rw [e6]
        have e7 : x 7 = .bool true := hv 7 (by decide)
        rw [e7]
        refine wpList_nil ?_
        have RA2 := RA.nx hx
        have RB2 := RB.nx hx
        have RC2 := RC.nx hx
        have NX := Lib.hid (NW.out.trans hx)
        clear RA RB RC hv hx NW
        go_wp2_with (first | (refine wpList_load_row rfl 27 (.tmp 3) rfl (w.heap.size) rfl 27 (pcel ax an ah) (0, 0) _ RA2 Try.underlying27 rfl za.out ?_) | (refine wpList_load_row rfl 27 (.tmp 4) rfl (w.heap.size + 1) rfl 27 (pcel bx bn bh) (0, 0) _ RB2 Try.underlying27 rfl zb.out ?_) | (refine wpList_g (by rfl) fun K hK => wp_load_row_of (some 25) rfl 27 (.tmp 3) rfl (w.heap.size) rfl 27 (pcel ax an ah) _ RA2 Try.underlying27 rfl za.out (hK _ _ ?_)) | (refine wpList_g (by rfl) fun K hK => wp_load_row_of (some 26) rfl 27 (.tmp 4) rfl (w.heap.size + 1) rfl 27 (pcel bx bn bh) _ RB2 Try.underlying27 rfl zb.out (hK _ _ ?_)) | (refine wpList_g (by rfl) fun K hK => wp_load_row_of (some 36) rfl 27 (.tmp 4) rfl (w.heap.size + 1) rfl 27 (pcel bx bn bh) _ RB2 Try.underlying27 rfl zb.out (hK _ _ ?_)) | (refine wpList_g (by rfl) fun K hK => wp_load_row_of (some 37) rfl 27 (.tmp 5) rfl (w.heap.size + 1 + 1) rfl 27 (pcel cx cn ch) _ RC2 Try.underlying27 rfl zc.out (hK _ _ ?_)) | (refine wpList_g (by rfl) fun K hK => wp_load_row_of (some 41) rfl 27 (.tmp 3) rfl (w.heap.size) rfl 27 (pcel ax an ah) _ RA2 Try.underlying27 rfl za.out (hK _ _ ?_)) | (refine wpList_g (by rfl) fun K hK => wp_load_row_of (some 42) rfl 27 (.tmp 5) rfl (w.heap.size + 1 + 1) rfl 27 (pcel cx cn ch) _ RC2 Try.underlying27 rfl zc.out (hK _ _ ?_)) | (refine wpList_load_row rfl 27 (.tmp 3) rfl (w.heap.size) rfl 27 (pcel ax an ah) (0, 0) _ RA2 Try.underlying27 rfl za.out ?_) | (refine wpList_load_row rfl 27 (.tmp 4) rfl (w.heap.size + 1) rfl 27 (pcel bx bn bh) (0, 0) _ RB2 Try.underlying27 rfl zb.out ?_) | (refine wpList_val (some 17) rfl rfl (.bool false) (run_eqp 27 (.tmp 15) (.tmp 16) _ rfl _ _ rfl rfl (by kernel_rfl) _ (HQ.out _)) ?_) | (refine wpList_g (by rfl) fun K hK => wp_val_of (some 27) rfl (.bool true) (run_neqp 27 (.tmp 25) (.tmp 26) _ rfl _ _ rfl rfl (by kernel_rfl) false (HQ.out _)) (hK _ _ ?_)))
        refine (HRE.out _).mono ?_
        rintro e W8 ⟨rfl, n8⟩
        replace RA2 := RA2.nx n8
        replace RB2 := RB2.nx n8
        replace RC2 := RC2.nx n8
        replace NX := Lib.hid (NX.out.trans n8)
        clear n8
        go_wp2_with fail
        refine (works_any _).mono ?_
        rintro e W9 ⟨rfl, n9⟩
        replace NX := Lib.hid (NX.out.trans n9)
        clear n9
        go_wp2_with fail
        go_ret
        exact ⟨rfl, NX.out⟩
    · obtain rfl : Q = false := by have := HPQ.out; revert this; cases Q <;> simp
      clear HPQ
      rcases S with _ | _
      · clear HT
        go_enter Try.func6, Try.ntmps6
        go_wp2_with fail
        have RA := RA0.out
        have RB := RB0.out
        have RC := RC0.out
        clear RA0 RB0 RC0
        generalize ((w.alloc (.cells (pcel ax an ah) 27)).alloc (.cells (pcel bx bn bh) 27)).alloc (.cells (pcel cx cn ch) 27) = W at *
        refine wp_region_nx 8 [[], [], [0, 1], [], [], [3, 4, 2], [2, 5, 0, 1, 2], [5, 6, 0, 1, 2, 3, 4, 5, 6]] [some 9, some 10, some 11, some 12, some 13, some 14, some 7, some 8]
          [.eq (.agg (pcel ax an ah)), .eq (.agg (pcel bx bn bh)), .eq (.bool true), .eq (.agg (pcel bx bn bh)), .eq (.agg (pcel ax an ah)), .eq (.bool false), .eq (.bool true), .eq (.bool false)]
          (by kernel_rfl) (by kernel_rfl) (hord_of (by decide)) (by kernel_rfl) (by decide) (by decide) (htail_of (by decide)) ?_ _ (by rfl) ?_
        · intro x tm wr htm hx i hi hd K hK
          simp only [fillA, List.setIfInBounds_toArray, List.set_cons_zero, List.set_cons_succ] at htm
          subst htm
          have hcs : i = 0 ∨ i = 1 ∨ i = 2 ∨ i = 3 ∨ i = 4 ∨ i = 5 ∨ i = 6 ∨ i = 7 := by omega
          clear hi
          rcases hcs with rfl | rfl | rfl | rfl | rfl | rfl | rfl | rfl
          · exact wpOp_of rfl rfl (wp_load_row_of (some 9) rfl 27 (.tmp 3) rfl (w.heap.size) rfl 27 (pcel ax an ah) _ (RA.nx hx) Try.underlying27 rfl za.out (hK _ _ rfl (Nx.refl _)))
          · exact wpOp_of rfl rfl (wp_load_row_of (some 10) rfl 27 (.tmp 4) rfl (w.heap.size + 1) rfl 27 (pcel bx bn bh) _ (RB.nx hx) Try.underlying27 rfl zb.out (hK _ _ rfl (Nx.refl _)))
          · have e0 : x 0 = .agg (pcel ax an ah) := hd 0 (by decide)
            have e1 : x 1 = .agg (pcel bx bn bh) := hd 1 (by decide)
            generalize x 0 = y0 at e0 hK ⊢
            subst e0
            generalize x 1 = y1 at e1 hK ⊢
            subst e1
            refine wpOp_of rfl rfl (wp_call_of (some 11) rfl 26 #[(.agg (pcel ax an ah)), (.agg (pcel bx bn bh))] (by kernel_rfl) (.bool true) ?_ (fun w' h => hK _ w' rfl h))
            exact HAB.out wr
          · exact wpOp_of rfl rfl (wp_load_row_of (some 12) rfl 27 (.tmp 4) rfl (w.heap.size + 1) rfl 27 (pcel bx bn bh) _ (RB.nx hx) Try.underlying27 rfl zb.out (hK _ _ rfl (Nx.refl _)))
          · exact wpOp_of rfl rfl (wp_load_row_of (some 13) rfl 27 (.tmp 3) rfl (w.heap.size) rfl 27 (pcel ax an ah) _ (RA.nx hx) Try.underlying27 rfl za.out (hK _ _ rfl (Nx.refl _)))
          · have e3 : x 3 = .agg (pcel bx bn bh) := hd 3 (by decide)
            have e4 : x 4 = .agg (pcel ax an ah) := hd 4 (by decide)
            have e2 : x 2 = .bool true := hd 2 (by decide)
            generalize x 3 = y3 at e3 hK ⊢
            subst e3
            generalize x 4 = y4 at e4 hK ⊢
            subst e4
            generalize x 2 = y2 at e2 hK ⊢
            subst e2
            refine wpOp_of rfl rfl (wp_call_of (some 14) rfl 26 #[(.agg (pcel bx bn bh)), (.agg (pcel ax an ah))] (by kernel_rfl) (.bool false) ?_ (fun w' h => hK _ w' rfl h))
            exact HBA.out wr
          · have e2 : x 2 = .bool true := hd 2 (by decide)
            generalize x 2 = y2 at e2 hK ⊢
            subst e2
            exact wpOp_of rfl rfl (wp_val_of (some 7) rfl (.bool true) (by kernel_rfl) (hK _ _ rfl (Nx.refl _)))
          · have e5 : x 5 = .bool false := hd 5 (by decide)
            generalize x 5 = y5 at e5 hK ⊢
            subst e5
            exact wpOp_of rfl rfl (wp_val_of (some 8) rfl (.bool false) (by kernel_rfl) (hK _ _ rfl (Nx.refl _)))
        · intro x tm wr htm hx hv
          simp only [fillA, List.setIfInBounds_toArray, List.set_cons_zero, List.set_cons_succ] at htm
          subst htm
          have e6 : x 6 = .bool true := hv 6 (by decide)
          rw [e6]
          have e7 : x 7 = .bool false := hv 7 (by decide)
          rw [e7]
          refine wpList_nil ?_
          have RA2 := RA.nx hx
          have RB2 := RB.nx hx
          have RC2 := RC.nx hx
          have NX := Lib.hid (NW.out.trans hx)
          clear RA RB RC hv hx NW
          go_wp2_with (first | (refine wpList_load_row rfl 27 (.tmp 3) rfl (w.heap.size) rfl 27 (pcel ax an ah) (0, 0) _ RA2 Try.underlying27 rfl za.out ?_) | (refine wpList_load_row rfl 27 (.tmp 4) rfl (w.heap.size + 1) rfl 27 (pcel bx bn bh) (0, 0) _ RB2 Try.underlying27 rfl zb.out ?_) | (refine wpList_g (by rfl) fun K hK => wp_load_row_of (some 25) rfl 27 (.tmp 3) rfl (w.heap.size) rfl 27 (pcel ax an ah) _ RA2 Try.underlying27 rfl za.out (hK _ _ ?_)) | (refine wpList_g (by rfl) fun K hK => wp_load_row_of (some 26) rfl 27 (.tmp 4) rfl (w.heap.size + 1) rfl 27 (pcel bx bn bh) _ RB2 Try.underlying27 rfl zb.out (hK _ _ ?_)) | (refine wpList_g (by rfl) fun K hK => wp_load_row_of (some 36) rfl 27 (.tmp 4) rfl (w.heap.size + 1) rfl 27 (pcel bx bn bh) _ RB2 Try.underlying27 rfl zb.out (hK _ _ ?_)) | (refine wpList_g (by rfl) fun K hK => wp_load_row_of (some 37) rfl 27 (.tmp 5) rfl (w.heap.size + 1 + 1) rfl 27 (pcel cx cn ch) _ RC2 Try.underlying27 rfl zc.out (hK _ _ ?_)) | (refine wpList_g (by rfl) fun K hK => wp_load_row_of (some 41) rfl 27 (.tmp 3) rfl (w.heap.size) rfl 27 (pcel ax an ah) _ RA2 Try.underlying27 rfl za.out (hK _ _ ?_)) | (refine wpList_g (by rfl) fun K hK => wp_load_row_of (some 42) rfl 27 (.tmp 5) rfl (w.heap.size + 1 + 1) rfl 27 (pcel cx cn ch) _ RC2 Try.underlying27 rfl zc.out (hK _ _ ?_)) | (refine wpList_load_row rfl 27 (.tmp 3) rfl (w.heap.size) rfl 27 (pcel ax an ah) (0, 0) _ RA2 Try.underlying27 rfl za.out ?_) | (refine wpList_load_row rfl 27 (.tmp 4) rfl (w.heap.size + 1) rfl 27 (pcel bx bn bh) (0, 0) _ RB2 Try.underlying27 rfl zb.out ?_) | (refine wpList_val (some 17) rfl rfl (.bool false) (run_eqp 27 (.tmp 15) (.tmp 16) _ rfl _ _ rfl rfl (by kernel_rfl) _ (HQ.out _)) ?_) | (refine wpList_g (by rfl) fun K hK => wp_val_of (some 27) rfl (.bool true) (run_neqp 27 (.tmp 25) (.tmp 26) _ rfl _ _ rfl rfl (by kernel_rfl) false (HQ.out _)) (hK _ _ ?_)))
          refine (HBC.out _).mono ?_
          rintro e W5 ⟨rfl, n5⟩
          replace RA2 := RA2.nx n5
          replace RB2 := RB2.nx n5
          replace RC2 := RC2.nx n5
          replace NX := Lib.hid (NX.out.trans n5)
          clear n5
          go_wp2_with (first | (refine wpList_load_row rfl 27 (.tmp 3) rfl (w.heap.size) rfl 27 (pcel ax an ah) (0, 0) _ RA2 Try.underlying27 rfl za.out ?_) | (refine wpList_load_row rfl 27 (.tmp 4) rfl (w.heap.size + 1) rfl 27 (pcel bx bn bh) (0, 0) _ RB2 Try.underlying27 rfl zb.out ?_) | (refine wpList_g (by rfl) fun K hK => wp_load_row_of (some 25) rfl 27 (.tmp 3) rfl (w.heap.size) rfl 27 (pcel ax an ah) _ RA2 Try.underlying27 rfl za.out (hK _ _ ?_)) | (refine wpList_g (by rfl) fun K hK => wp_load_row_of (some 26) rfl 27 (.tmp 4) rfl (w.heap.size + 1) rfl 27 (pcel bx bn bh) _ RB2 Try.underlying27 rfl zb.out (hK _ _ ?_)) | (refine wpList_g (by rfl) fun K hK => wp_load_row_of (some 36) rfl 27 (.tmp 4) rfl (w.heap.size + 1) rfl 27 (pcel bx bn bh) _ RB2 Try.underlying27 rfl zb.out (hK _ _ ?_)) | (refine wpList_g (by rfl) fun K hK => wp_load_row_of (some 37) rfl 27 (.tmp 5) rfl (w.heap.size + 1 + 1) rfl 27 (pcel cx cn ch) _ RC2 Try.underlying27 rfl zc.out (hK _ _ ?_)) | (refine wpList_g (by rfl) fun K hK => wp_load_row_of (some 41) rfl 27 (.tmp 3) rfl (w.heap.size) rfl 27 (pcel ax an ah) _ RA2 Try.underlying27 rfl za.out (hK _ _ ?_)) | (refine wpList_g (by rfl) fun K hK => wp_load_row_of (some 42) rfl 27 (.tmp 5) rfl (w.heap.size + 1 + 1) rfl 27 (pcel cx cn ch) _ RC2 Try.underlying27 rfl zc.out (hK _ _ ?_)) | (refine wpList_load_row rfl 27 (.tmp 3) rfl (w.heap.size) rfl 27 (pcel ax an ah) (0, 0) _ RA2 Try.underlying27 rfl za.out ?_) | (refine wpList_load_row rfl 27 (.tmp 4) rfl (w.heap.size + 1) rfl 27 (pcel bx bn bh) (0, 0) _ RB2 Try.underlying27 rfl zb.out ?_))
          refine (HRE.out _).mono ?_
          rintro e W8 ⟨rfl, n8⟩
          replace RA2 := RA2.nx n8
          replace RB2 := RB2.nx n8
          replace RC2 := RC2.nx n8
          replace NX := Lib.hid (NX.out.trans n8)
          clear n8
          go_wp2_with fail
          refine (works_any _).mono ?_
          rintro e W9 ⟨rfl, n9⟩
          replace NX := Lib.hid (NX.out.trans n9)
          clear n9
          go_wp2_with fail
          go_ret
          exact ⟨rfl, NX.out⟩
      · obtain rfl : T = true := HT.out rfl rfl
        clear HT
        go_enter Try.func6, Try.ntmps6
        go_wp2_with fail
        have RA := RA0.out
        have RB := RB0.out
        have RC := RC0.out
        clear RA0 RB0 RC0
        generalize ((w.alloc (.cells (pcel ax an ah) 27)).alloc (.cells (pcel bx bn bh) 27)).alloc (.cells (pcel cx cn ch) 27) = W at *
        refine wp_region_nx 8 [[], [], [0, 1], [], [], [3, 4, 2], [2, 5, 0, 1, 2], [5, 6, 0, 1, 2, 3, 4, 5, 6]] [some 9, some 10, some 11, some 12, some 13, some 14, some 7, some 8]
          [.eq (.agg (pcel ax an ah)), .eq (.agg (pcel bx bn bh)), .eq (.bool true), .eq (.agg (pcel bx bn bh)), .eq (.agg (pcel ax an ah)), .eq (.bool false), .eq (.bool true), .eq (.bool false)]
          (by kernel_rfl) (by kernel_rfl) (hord_of (by decide)) (by kernel_rfl) (by decide) (by decide) (htail_of (by decide)) ?_ _ (by rfl) ?_
        · intro x tm wr htm hx i hi hd K hK
          simp only [fillA, List.setIfInBounds_toArray, List.set_cons_zero, List.set_cons_succ] at htm
          subst htm
          have hcs : i = 0 ∨ i = 1 ∨ i = 2 ∨ i = 3 ∨ i = 4 ∨ i = 5 ∨ i = 6 ∨ i = 7 := by omega
          clear hi
          rcases hcs with rfl | rfl | rfl | rfl | rfl | rfl | rfl | rfl
          · exact wpOp_of rfl rfl (wp_load_row_of (some 9) rfl 27 (.tmp 3) rfl (w.heap.size) rfl 27 (pcel ax an ah) _ (RA.nx hx) Try.underlying27 rfl za.out (hK _ _ rfl (Nx.refl _)))
          · exact wpOp_of rfl rfl (wp_load_row_of (some 10) rfl 27 (.tmp 4) rfl (w.heap.size + 1) rfl 27 (pcel bx bn bh) _ (RB.nx hx) Try.underlying27 rfl zb.out (hK _ _ rfl (Nx.refl _)))
          · have e0 : x 0 = .agg (pcel ax an ah) := hd 0 (by decide)
            have e1 : x 1 = .agg (pcel bx bn bh) := hd 1 (by decide)
            generalize x 0 = y0 at e0 hK ⊢
            subst e0
            generalize x 1 = y1 at e1 hK ⊢
            subst e1
            refine wpOp_of rfl rfl (wp_call_of (some 11) rfl 26 #[(.agg (pcel ax an ah)), (.agg (pcel bx bn bh))] (by kernel_rfl) (.bool true) ?_ (fun w' h => hK _ w' rfl h))
            exact HAB.out wr
          · exact wpOp_of rfl rfl (wp_load_row_of (some 12) rfl 27 (.tmp 4) rfl (w.heap.size + 1) rfl 27 (pcel bx bn bh) _ (RB.nx hx) Try.underlying27 rfl zb.out (hK _ _ rfl (Nx.refl _)))
          · exact wpOp_of rfl rfl (wp_load_row_of (some 13) rfl 27 (.tmp 3) rfl (w.heap.size) rfl 27 (pcel ax an ah) _ (RA.nx hx) Try.underlying27 rfl za.out (hK _ _ rfl (Nx.refl _)))
          · have e3 : x 3 = .agg (pcel bx bn bh) := hd 3 (by decide)
            have e4 : x 4 = .agg (pcel ax an ah) := hd 4 (by decide)
            have e2 : x 2 = .bool true := hd 2 (by decide)
            generalize x 3 = y3 at e3 hK ⊢
            subst e3
            generalize x 4 = y4 at e4 hK ⊢
            subst e4
            generalize x 2 = y2 at e2 hK ⊢
            subst e2
            refine wpOp_of rfl rfl (wp_call_of (some 14) rfl 26 #[(.agg (pcel bx bn bh)), (.agg (pcel ax an ah))] (by kernel_rfl) (.bool false) ?_ (fun w' h => hK _ w' rfl h))
            exact HBA.out wr
          · have e2 : x 2 = .bool true := hd 2 (by decide)
            generalize x 2 = y2 at e2 hK ⊢
            subst e2
            exact wpOp_of rfl rfl (wp_val_of (some 7) rfl (.bool true) (by kernel_rfl) (hK _ _ rfl (Nx.refl _)))
          · have e5 : x 5 = .bool false := hd 5 (by decide)
            generalize x 5 = y5 at e5 hK ⊢
            subst e5
            exact wpOp_of rfl rfl (wp_val_of (some 8) rfl (.bool false) (by kernel_rfl) (hK _ _ rfl (Nx.refl _)))
        · intro x tm wr htm hx hv
          simp only [fillA, List.setIfInBounds_toArray, List.set_cons_zero, List.set_cons_succ] at htm
          subst htm
          have e6 : x 6 = .bool true := hv 6 (by decide)
          rw [e6]
          have e7 : x 7 = .bool false := hv 7 (by decide)
          rw [e7]
          refine wpList_nil ?_
          have RA2 := RA.nx hx
          have RB2 := RB.nx hx
          have RC2 := RC.nx hx
          have NX := Lib.hid (NW.out.trans hx)
          clear RA RB RC hv hx NW
          go_wp2_with (first | (refine wpList_load_row rfl 27 (.tmp 3) rfl (w.heap.size) rfl 27 (pcel ax an ah) (0, 0) _ RA2 Try.underlying27 rfl za.out ?_) | (refine wpList_load_row rfl 27 (.tmp 4) rfl (w.heap.size + 1) rfl 27 (pcel bx bn bh) (0, 0) _ RB2 Try.underlying27 rfl zb.out ?_) | (refine wpList_g (by rfl) fun K hK => wp_load_row_of (some 25) rfl 27 (.tmp 3) rfl (w.heap.size) rfl 27 (pcel ax an ah) _ RA2 Try.underlying27 rfl za.out (hK _ _ ?_)) | (refine wpList_g (by rfl) fun K hK => wp_load_row_of (some 26) rfl 27 (.tmp 4) rfl (w.heap.size + 1) rfl 27 (pcel bx bn bh) _ RB2 Try.underlying27 rfl zb.out (hK _ _ ?_)) | (refine wpList_g (by rfl) fun K hK => wp_load_row_of (some 36) rfl 27 (.tmp 4) rfl (w.heap.size + 1) rfl 27 (pcel bx bn bh) _ RB2 Try.underlying27 rfl zb.out (hK _ _ ?_)) | (refine wpList_g (by rfl) fun K hK => wp_load_row_of (some 37) rfl 27 (.tmp 5) rfl (w.heap.size + 1 + 1) rfl 27 (pcel cx cn ch) _ RC2 Try.underlying27 rfl zc.out (hK _ _ ?_)) | (refine wpList_g (by rfl) fun K hK => wp_load_row_of (some 41) rfl 27 (.tmp 3) rfl (w.heap.size) rfl 27 (pcel ax an ah) _ RA2 Try.underlying27 rfl za.out (hK _ _ ?_)) | (refine wpList_g (by rfl) fun K hK => wp_load_row_of (some 42) rfl 27 (.tmp 5) rfl (w.heap.size + 1 + 1) rfl 27 (pcel cx cn ch) _ RC2 Try.underlying27 rfl zc.out (hK _ _ ?_)) | (refine wpList_load_row rfl 27 (.tmp 3) rfl (w.heap.size) rfl 27 (pcel ax an ah) (0, 0) _ RA2 Try.underlying27 rfl za.out ?_) | (refine wpList_load_row rfl 27 (.tmp 4) rfl (w.heap.size + 1) rfl 27 (pcel bx bn bh) (0, 0) _ RB2 Try.underlying27 rfl zb.out ?_) | (refine wpList_val (some 17) rfl rfl (.bool false) (run_eqp 27 (.tmp 15) (.tmp 16) _ rfl _ _ rfl rfl (by kernel_rfl) _ (HQ.out _)) ?_) | (refine wpList_g (by rfl) fun K hK => wp_val_of (some 27) rfl (.bool true) (run_neqp 27 (.tmp 25) (.tmp 26) _ rfl _ _ rfl rfl (by kernel_rfl) false (HQ.out _)) (hK _ _ ?_)))
          refine (HBC.out _).mono ?_
          rintro e W5 ⟨rfl, n5⟩
          replace RA2 := RA2.nx n5
          replace RB2 := RB2.nx n5
          replace RC2 := RC2.nx n5
          replace NX := Lib.hid (NX.out.trans n5)
          clear n5
          go_wp2_with (first | (refine wpList_load_row rfl 27 (.tmp 3) rfl (w.heap.size) rfl 27 (pcel ax an ah) (0, 0) _ RA2 Try.underlying27 rfl za.out ?_) | (refine wpList_load_row rfl 27 (.tmp 4) rfl (w.heap.size + 1) rfl 27 (pcel bx bn bh) (0, 0) _ RB2 Try.underlying27 rfl zb.out ?_) | (refine wpList_g (by rfl) fun K hK => wp_load_row_of (some 25) rfl 27 (.tmp 3) rfl (w.heap.size) rfl 27 (pcel ax an ah) _ RA2 Try.underlying27 rfl za.out (hK _ _ ?_)) | (refine wpList_g (by rfl) fun K hK => wp_load_row_of (some 26) rfl 27 (.tmp 4) rfl (w.heap.size + 1) rfl 27 (pcel bx bn bh) _ RB2 Try.underlying27 rfl zb.out (hK _ _ ?_)) | (refine wpList_g (by rfl) fun K hK => wp_load_row_of (some 36) rfl 27 (.tmp 4) rfl (w.heap.size + 1) rfl 27 (pcel bx bn bh) _ RB2 Try.underlying27 rfl zb.out (hK _ _ ?_)) | (refine wpList_g (by rfl) fun K hK => wp_load_row_of (some 37) rfl 27 (.tmp 5) rfl (w.heap.size + 1 + 1) rfl 27 (pcel cx cn ch) _ RC2 Try.underlying27 rfl zc.out (hK _ _ ?_)) | (refine wpList_g (by rfl) fun K hK => wp_load_row_of (some 41) rfl 27 (.tmp 3) rfl (w.heap.size) rfl 27 (pcel ax an ah) _ RA2 Try.underlying27 rfl za.out (hK _ _ ?_)) | (refine wpList_g (by rfl) fun K hK => wp_load_row_of (some 42) rfl 27 (.tmp 5) rfl (w.heap.size + 1 + 1) rfl 27 (pcel cx cn ch) _ RC2 Try.underlying27 rfl zc.out (hK _ _ ?_)) | (refine wpList_load_row rfl 27 (.tmp 3) rfl (w.heap.size) rfl 27 (pcel ax an ah) (0, 0) _ RA2 Try.underlying27 rfl za.out ?_) | (refine wpList_load_row rfl 27 (.tmp 4) rfl (w.heap.size + 1) rfl 27 (pcel bx bn bh) (0, 0) _ RB2 Try.underlying27 rfl zb.out ?_))
          refine (HAC.out _).mono ?_
          rintro e W6 ⟨rfl, n6⟩
          replace RA2 := RA2.nx n6
          replace RB2 := RB2.nx n6
          replace RC2 := RC2.nx n6
          replace NX := Lib.hid (NX.out.trans n6)
          clear n6
          go_wp2_with (first | (refine wpList_load_row rfl 27 (.tmp 3) rfl (w.heap.size) rfl 27 (pcel ax an ah) (0, 0) _ RA2 Try.underlying27 rfl za.out ?_) | (refine wpList_load_row rfl 27 (.tmp 4) rfl (w.heap.size + 1) rfl 27 (pcel bx bn bh) (0, 0) _ RB2 Try.underlying27 rfl zb.out ?_) | (refine wpList_g (by rfl) fun K hK => wp_load_row_of (some 25) rfl 27 (.tmp 3) rfl (w.heap.size) rfl 27 (pcel ax an ah) _ RA2 Try.underlying27 rfl za.out (hK _ _ ?_)) | (refine wpList_g (by rfl) fun K hK => wp_load_row_of (some 26) rfl 27 (.tmp 4) rfl (w.heap.size + 1) rfl 27 (pcel bx bn bh) _ RB2 Try.underlying27 rfl zb.out (hK _ _ ?_)) | (refine wpList_g (by rfl) fun K hK => wp_load_row_of (some 36) rfl 27 (.tmp 4) rfl (w.heap.size + 1) rfl 27 (pcel bx bn bh) _ RB2 Try.underlying27 rfl zb.out (hK _ _ ?_)) | (refine wpList_g (by rfl) fun K hK => wp_load_row_of (some 37) rfl 27 (.tmp 5) rfl (w.heap.size + 1 + 1) rfl 27 (pcel cx cn ch) _ RC2 Try.underlying27 rfl zc.out (hK _ _ ?_)) | (refine wpList_g (by rfl) fun K hK => wp_load_row_of (some 41) rfl 27 (.tmp 3) rfl (w.heap.size) rfl 27 (pcel ax an ah) _ RA2 Try.underlying27 rfl za.out (hK _ _ ?_)) | (refine wpList_g (by rfl) fun K hK => wp_load_row_of (some 42) rfl 27 (.tmp 5) rfl (w.heap.size + 1 + 1) rfl 27 (pcel cx cn ch) _ RC2 Try.underlying27 rfl zc.out (hK _ _ ?_)) | (refine wpList_load_row rfl 27 (.tmp 3) rfl (w.heap.size) rfl 27 (pcel ax an ah) (0, 0) _ RA2 Try.underlying27 rfl za.out ?_) | (refine wpList_load_row rfl 27 (.tmp 4) rfl (w.heap.size + 1) rfl 27 (pcel bx bn bh) (0, 0) _ RB2 Try.underlying27 rfl zb.out ?_))
          refine (HRE.out _).mono ?_
          rintro e W8 ⟨rfl, n8⟩
          replace RA2 := RA2.nx n8
          replace RB2 := RB2.nx n8
          replace RC2 := RC2.nx n8
          replace NX := Lib.hid (NX.out.trans n8)
          clear n8
          go_wp2_with fail
          refine (works_any _).mono ?_
          rintro e W9 ⟨rfl, n9⟩
          replace NX := Lib.hid (NX.out.trans n9)
          clear n9
          go_wp2_with fail
          go_ret
          exact ⟨rfl, NX.out⟩
end Go.Proofs.Ytniaiglfgknfiaa