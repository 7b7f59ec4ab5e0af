/- LAYER 8: the walk of HeadGets. -/
import Derived.Test.YtjbeemoobmagnaaDoorHeadR6
import Derived.Lib.QuietBelow
namespace Go.Proofs.YtjbeemoobmagnaaDoor
open Go Go.RowKit
set_option linter.unusedVariables false
set_option linter.unusedSimpArgs false
set_option linter.unusedVariables false
set_option linter.unusedSimpArgs false

theorem run_neqh {P : Program} {w : World} {a : Act} {o : Oper} (T : TypeId) (x y : Operand) (T' : TypeId) (ho : o.op = .binOp .neq T x y T') (X Y : Array Value)
    (hx : a.eval x = .agg X) (hy : a.eval y = .agg Y) (hgt : P.eqGuardType P.depth T = false) (b : Bool) (heq : (Op.equalIn 10000 T (.agg X) (.agg Y)).run P w = .ok b w) : (execOp a.eval o).run P w = .ok (.value (.bool (!b))) w := by
  unfold execOp
  simp only [ho]
  have e1 : (eqGuard .neq T x y (a.eval x) (a.eval y)).run P w = .ok () w := by
    rw [hx, hy, run_eqGuard_agg w .neq T x y X Y hgt]
  have e2 : (binOp .neq T (a.eval x) (a.eval y)).run P w = .ok (.bool (!b)) w := by
    rw [hx, hy, run_neq_struct w T X Y, heq]
    rfl
  simp only [Sem.run_bind, e1, e2, Result.andThen_ok, Sem.run_pure]
theorem wp_geq_of {P : Program} {o : Oper} {a : Act} {w : World} {K : Act → World → Prop} {Q : Exit → Act → World → Prop} (dst : Option Tmp) (hd : o.dst = dst) (T : TypeId) (x y : Operand) (T' : TypeId) (ho : o.op = .binOp .geq T x y T') (k : IntKind) (z y' : Int)
    (hx : a.eval x = .int k z) (hy : a.eval y = .int k y') (hh : y' ≤ z) (h : K (a.put dst (.bool true)) w) : o.wp P a w K Q := by
  refine wp_val_of dst hd (.bool true) ?_ h
  unfold execOp
  simp only [ho, hx, hy]
  have e1 : (eqGuard .geq T x y (.int k z) (.int k y')).run P w = .ok () w := by
    simp [eqGuard]
  have e2 : (binOp .geq T (.int k z) (.int k y')).run P w = .ok (.bool true) w := by
    simp [binOp, Op.intCmp, hh]
  simp only [Sem.run_bind, e1, e2, Result.andThen_ok, Sem.run_pure]
theorem wp_leq_of {P : Program} {o : Oper} {a : Act} {w : World} {K : Act → World → Prop} {Q : Exit → Act → World → Prop} (dst : Option Tmp) (hd : o.dst = dst) (T : TypeId) (x y : Operand) (T' : TypeId) (ho : o.op = .binOp .leq T x y T') (k : IntKind) (z y' : Int)
    (hx : a.eval x = .int k z) (hy : a.eval y = .int k y') (hh : z ≤ y') (h : K (a.put dst (.bool true)) w) : o.wp P a w K Q := by
  refine wp_val_of dst hd (.bool true) ?_ h
  unfold execOp
  simp only [ho, hx, hy]
  have e1 : (eqGuard .leq T x y (.int k z) (.int k y')).run P w = .ok () w := by
    simp [eqGuard]
  have e2 : (binOp .leq T (.int k z) (.int k y')).run P w = .ok (.bool true) w := by
    simp [binOp, Op.intCmp, hh]
  simp only [Sem.run_bind, e1, e2, Result.andThen_ok, Sem.run_pure]
theorem wpOp_no {P : Program} {ops : Array Oper} {Q : Exit → Act → World → Prop} {i : Nat} {o : Oper} {K : Act → World → Prop} {a : Act} {w : World} (ho : ops[i]? = some o) (hg : Region.wanted o (yielded ops a.tmps) = false) (h : K (a.put o.dst undef) w) : wpOp P ops Q i K a w := by
  unfold wpOp
  rw [ho]
  dsimp only
  rw [if_neg (by rw [hg]; simp)]
  exact h
theorem low_four (q : List UInt8) (h : q.length = 4) : low (num q) 4 = q := by
  have := low_num q
  rwa [h] at this
theorem hdB_of (L : List UInt8) (h : L.length = 76) : hdB (L.take 32) ((L.drop 32).take 32) (num ((L.drop 64).take 4)) (num ((L.drop 68).take 4)) (num ((L.drop 72).take 4)) = L := by
  unfold hdB
  rw [low_four _ (by rw [List.length_take, List.length_drop]; omega), low_four _ (by rw [List.length_take, List.length_drop]; omega), low_four _ (by rw [List.length_take, List.length_drop]; omega)]
  have e5 : (L.drop 72).take 4 = L.drop 72 := List.take_of_length_le (by rw [List.length_drop]; omega)
  have e4 : (L.drop 68).take 4 ++ L.drop 72 = L.drop 68 := by
    have := List.take_append_drop 4 (L.drop 68)
    rwa [List.drop_drop] at this
  have e3 : (L.drop 64).take 4 ++ L.drop 68 = L.drop 64 := by
    have := List.take_append_drop 4 (L.drop 64)
    rwa [List.drop_drop] at this
  have e2 : (L.drop 32).take 32 ++ L.drop 64 = L.drop 32 := by
    have := List.take_append_drop 32 (L.drop 32)
    rwa [List.drop_drop] at this
  rw [e5, e4, e3, e2, List.take_append_drop]
theorem num_four (q : List UInt8) (h : q.length = 4) : num q < 4294967296 := by
  have := num_lt q
  rw [h, p4] at this
  exact this
theorem hgT_ok {l : List UInt8} {at_ : Int} (h : (hgT l at_).e = 0) : ∃ i : Nat, at_ = (i : Int) ∧ i + 76 ≤ l.length ∧ (hgT l at_).at_ = (i : Int) + 76 ∧ HOk (hgT l at_).p (hgT l at_).r (hgT l at_).t (hgT l at_).b (hgT l at_).n ∧ hdB (hgT l at_).p (hgT l at_).r (hgT l at_).t (hgT l at_).b (hgT l at_).n = (l.drop i).take 76 := by
  have hp := hgT_p l at_
  have hr := hgT_r l at_
  unfold hgT at h hp hr ⊢
  by_cases hE : cutE l.length at_ 76 = 0
  · rw [if_pos hE] at hp hr ⊢
    obtain ⟨q1, q2, q3⟩ := cut76 hE
    have hc : cutL l at_ 76 = (l.drop at_.toNat).take 76 := by unfold cutL; rw [if_pos hE]; rfl
    refine ⟨at_.toNat, by omega, by omega, by show at_ + 76 = _; omega, ⟨hp, hr, ?_, ?_, ?_⟩, ?_⟩
    · exact num_four _ (by rw [List.length_take, List.length_drop]; omega)
    · exact num_four _ (by rw [List.length_take, List.length_drop]; omega)
    · exact num_four _ (by rw [List.length_take, List.length_drop]; omega)
    · rw [← hc]
      exact hdB_of _ q1
  · rw [if_neg hE] at h
    exact absurd h hE
theorem hgT_e (l : List UInt8) (at_ : Int) : (hgT l at_).e = 0 ∨ (hgT l at_).e = 2 ∨ (hgT l at_).e = 4 := by
  unfold hgT
  by_cases hE : cutE l.length at_ 76 = 0
  · rw [if_pos hE]
    exact .inl rfl
  · rw [if_neg hE]
    show cutE l.length at_ 76 = 0 ∨ cutE l.length at_ 76 = 2 ∨ cutE l.length at_ 76 = 4
    unfold cutE
    split
    · exact .inr (.inl rfl)
    · split
      · exact .inr (.inr rfl)
      · exact .inl rfl
theorem hrT_p (l : List UInt8) : (hrT l).p.length = 32 := by
  unfold hrT
  split
  · exact Z32_length
  split
  · exact Z32_length
  · exact hgT_p l 0
theorem hrT_r (l : List UInt8) : (hrT l).r.length = 32 := by
  unfold hrT
  split
  · exact Z32_length
  split
  · exact Z32_length
  · exact hgT_r l 0
set_option maxRecDepth 100000 in
set_option maxHeartbeats 8000000 in
theorem headGets_law {w : World} (v0 : Value) (l0 : List UInt8) (h0 : Rd w v0 l0) (hr0 : l0.length ≤ 140737488351232) (at_ : Int) (_ : -9223372036854775808 ≤ at_) (_ : at_ ≤ 9223372036854775807) (hk : KIs w) :
    Calls Tryd.prog 5 #[v0, .int .i64 at_] w fun e w' => e = .returned (.bool true) ∧ Nx w w' := by
  have hr : l0.length ≤ 140737488355328 := by omega
  have HG := Lib.hid (fun w h => hget_any v0 l0 at_ w h hr)
  have HRG := Lib.hid (fun w h => rhget_any v0 l0 at_ w h hr)
  have HE := Lib.hid (fun w h => hread_any v0 l0 w h hr)
  have HRE := Lib.hid (fun w h => rhread_any v0 l0 w h hr)
  have HRD := Lib.hid (fun w' (n : Nx w w') => h0.nx n)
  have HZL := Lib.hid Z32_length
  have HXL := Lib.hid (hgT_p l0 at_)
  have HYL := Lib.hid (hgT_r l0 at_)
  have HDX := Lib.hid (hrT_p l0)
  have HDY := Lib.hid (hrT_r l0)
  have HE24 := Lib.hid (hgT_e l0 at_)
  have HOK := Lib.hid (fun h => hgT_ok (l := l0) (at_ := at_) h)
  obtain ⟨hz2, hzs2⟩ := zero_of_info info_head
  obtain ⟨A, c, rfl, hc, hm, ha⟩ := h0
  have HBW : Hid (∀ i m : Nat, i ≤ m → m ≤ l0.length → Rd w (betweenV A c i m) ((l0.drop i).take (m - i)) ∧ ∀ W, (Instr.sliceAt 34 (.slice A l0.length c) (some (.int .i64 (i : Int))) (some (.int .i64 (m : Int))) none).run Tryd.prog W = .ok (betweenV A c i m) W) := Lib.hid fun i m h1 h2 =>
    ⟨between_rd ha hc hm i m h1 h2, fun W => slice_between (P := Tryd.prog) 34 5 Tryd.underlying34 Tryd.sizeOf5 A l0.length c i m _ _ rfl rfl h1 (by omega) W⟩
  clear hr hr0 hc hm ha hk
  generalize hgT l0 at_ = G0 at *
  generalize hrT l0 = D0 at *
  obtain ⟨X, Y, t, b, n, P, E⟩ := G0
  obtain ⟨DX, DY, dt, db, dn, DP, DE⟩ := D0
  dsimp only at *
  have ix := Lib.hid (headsz X Y t b n HXL.out HYL.out)
  have jx := Lib.hid (headsame Z32 Z32 X Y 0 0 0 t b n HZL.out HZL.out HXL.out HYL.out)
  have iy := Lib.hid (headsz DX DY dt db dn HDX.out HDY.out)
  have jy := Lib.hid (headsame Z32 Z32 DX DY 0 0 0 dt db dn HZL.out HZL.out HDX.out HDY.out)
  have HQ1 : Hid (∀ w : World, (Op.equalIn 10000 32 (.agg (hdc X Y t b n)) (.agg (hdc X Y t b n))).run Tryd.prog w = .ok true w) := Lib.hid fun w => (eq_head X Y X Y t b n t b n HXL.out HYL.out HXL.out HYL.out w).trans (by simp)
  have HQ2 : Hid (∀ w : World, (Op.equalIn 10000 32 (.agg (hdc DX DY dt db dn)) (.agg (hdc DX DY dt db dn))).run Tryd.prog w = .ok true w) := Lib.hid fun w => (eq_head DX DY DX DY dt db dn dt db dn HDX.out HDY.out HDX.out HDY.out w).trans (by simp)
  have N0 := Lib.hid (Nx.refl w)
  go_enter Tryd.func5, Tryd.ntmps5
  go_wp2_with fail
  refine (HG.out _ (HRD.out _ N0.out)).mono ?_
  rintro e u1 ⟨rfl, n1⟩
  have S1 : Nx u1 ((u1.alloc (.cells (hdc Z32 Z32 0 0 0) 32)).setRow u1.heap.size (hdc X Y t b n)) := ((Nx.refl u1).alloc _).setRow _ (Nat.le_refl _)
  have M1 := n1.trans S1
  have Z1 := Row.new u1 (hdc Z32 Z32 0 0 0) 32 _ rfl

  have R1 := Z1.setRow (hdc X Y t b n)
  have N1 := Lib.hid (N0.out.trans M1)
  clear n1 S1 M1
  go_wp2_with (first | (refine wpList_store_row rfl 32 (.tmp 5) (.tmp 19) rfl u1.heap.size (hdc X Y t b n) rfl rfl 32 (hdc Z32 Z32 0 0 0) Z1 ix.out jx.out (hd_one _ _ _ _ _) ?_))
  clear Z1
  refine (HRG.out _ (HRD.out _ N1.out)).mono ?_
  rintro e u2 ⟨rfl, n2⟩
  have S2 : Nx u2 ((u2.alloc (.cells (hdc Z32 Z32 0 0 0) 32)).setRow u2.heap.size (hdc X Y t b n)) := ((Nx.refl u2).alloc _).setRow _ (Nat.le_refl _)
  have M2 := n2.trans S2
  have Z2 := Row.new u2 (hdc Z32 Z32 0 0 0) 32 _ rfl
  replace R1 := R1.nx M2
  have R2 := Z2.setRow (hdc X Y t b n)
  have N2 := Lib.hid (N1.out.trans M2)
  clear n2 S2 M2
  go_wp2_with (first | (refine wpList_store_row rfl 32 (.tmp 8) (.tmp 26) rfl u2.heap.size (hdc X Y t b n) rfl rfl 32 (hdc Z32 Z32 0 0 0) Z2 ix.out jx.out (hd_one _ _ _ _ _) ?_))
  clear Z2
  refine (HE.out _ (HRD.out _ N2.out)).mono ?_
  rintro e u3 ⟨rfl, n3⟩
  have S3 : Nx u3 ((u3.alloc (.cells (hdc Z32 Z32 0 0 0) 32)).setRow u3.heap.size (hdc DX DY dt db dn)) := ((Nx.refl u3).alloc _).setRow _ (Nat.le_refl _)
  have M3 := n3.trans S3
  have Z3 := Row.new u3 (hdc Z32 Z32 0 0 0) 32 _ rfl
  replace R1 := R1.nx M3
  replace R2 := R2.nx M3
  have R3 := Z3.setRow (hdc DX DY dt db dn)
  have N3 := Lib.hid (N2.out.trans M3)
  clear n3 S3 M3
  go_wp2_with (first | (refine wpList_store_row rfl 32 (.tmp 11) (.tmp 32) rfl u3.heap.size (hdc DX DY dt db dn) rfl rfl 32 (hdc Z32 Z32 0 0 0) Z3 iy.out jy.out (hd_one _ _ _ _ _) ?_))
  clear Z3
  refine (HRE.out _ (HRD.out _ N3.out)).mono ?_
  rintro e u4 ⟨rfl, n4⟩
  have S4 : Nx u4 ((u4.alloc (.cells (hdc Z32 Z32 0 0 0) 32)).setRow u4.heap.size (hdc DX DY dt db dn)) := ((Nx.refl u4).alloc _).setRow _ (Nat.le_refl _)
  have M4 := n4.trans S4
  have Z4 := Row.new u4 (hdc Z32 Z32 0 0 0) 32 _ rfl
  replace R1 := R1.nx M4
  replace R2 := R2.nx M4
  replace R3 := R3.nx M4
  have R4 := Z4.setRow (hdc DX DY dt db dn)
  have N4 := Lib.hid (N3.out.trans M4)
  clear n4 S4 M4
  go_wp2_with (first | (refine wpList_store_row rfl 32 (.tmp 13) (.tmp 37) rfl u4.heap.size (hdc DX DY dt db dn) rfl rfl 32 (hdc Z32 Z32 0 0 0) Z4 iy.out jy.out (hd_one _ _ _ _ _) ?_) | (refine wpList_load_row rfl 32 (.tmp 5) rfl u1.heap.size rfl 32 (hdc X Y t b n) (0, 0) _ R1 Tryd.underlying32 rfl ix.out ?_) | (refine wpList_load_row rfl 32 (.tmp 8) rfl u2.heap.size rfl 32 (hdc X Y t b n) (0, 0) _ R2 Tryd.underlying32 rfl ix.out ?_) | (refine wpList_val (some 41) rfl rfl (.bool false) (run_neqh 32 _ _ _ rfl (hdc X Y t b n) (hdc X Y t b n) rfl rfl (by kernel_rfl) true (HQ1.out _)) ?_) | (refine wpList_g (by rfl) fun K hK => wp_load_row_of (some 53) rfl 32 (.tmp 11) rfl u3.heap.size rfl 32 (hdc DX DY dt db dn) _ R3 Tryd.underlying32 rfl iy.out (hK _ _ ?_)) | (refine wpList_g (by rfl) fun K hK => wp_load_row_of (some 54) rfl 32 (.tmp 13) rfl u4.heap.size rfl 32 (hdc DX DY dt db dn) _ R4 Tryd.underlying32 rfl iy.out (hK _ _ ?_)) | (refine wpList_g (by rfl) fun K hK => wp_val_of (some 55) rfl (.bool false) (run_neqh 32 _ _ _ rfl (hdc DX DY dt db dn) (hdc DX DY dt db dn) rfl rfl (by kernel_rfl) true (HQ2.out _)) (hK _ _ ?_)))
  generalize ((u4.alloc (.cells (hdc Z32 Z32 0 0 0) 32)).setRow u4.heap.size (hdc DX DY dt db dn)) = W at *
  have RA := R1
  clear R1 R2 R3 R4
  rcases HE24.out with hE0 | hE0
  · subst hE0
    clear HE24
    obtain ⟨i, hi1, hi2, hP, hH, hB⟩ := HOK.out rfl
    subst hi1
    subst hP
    obtain ⟨rb, hcut⟩ := HBW.out i (i + 76) (by omega) hi2
    rw [Nat.add_sub_cancel_left, ← hB] at rb
    have HBT := Lib.hid (rb.nx N4.out)
    have HPU := Lib.hid (fun w => hput_any X Y t b n hH.p hH.r hH.t hH.b hH.n w)
    have HIE : Hid ((i : Int) + 76 ≤ (l0.length : Int)) := Lib.hid (by omega)
    have HCUT := Lib.hid (fun W => by
      have := hcut W
      rwa [show ((i + 76 : Nat) : Int) = (i : Int) + 76 by omega] at this)
    clear rb hcut hB hH hi2 HBW HOK
    generalize hdB X Y t b n = LB at *
    generalize betweenV A c i (i + 76) = VB at *
    refine wp_region_nx 25 [[], [0], [1], [2], [3, 2], [4, 2, 2], [5], [5], [7, 5], [6, 8, 5], [5, 9, 2], [10, 5, 2], [11], [12, 11, 11], [11], [11], [11], [14, 15, 16, 11], [13, 17, 13, 11], [11, 18, 2], [2, 19], [20, 18], [21, 21], [21, 22], [23, 22, 0, 1, 2, 3, 4, 5, 6, 7, 8, 9, 10, 11, 12, 13, 14, 15, 16, 17, 18, 19, 20, 21, 22, 23]] [some 62, some 63, some 64, some 65, some 66, some 67, some 68, some 69, some 70, some 71, some 72, some 73, some 74, some 75, some 76, some 77, some 78, some 79, some 80, some 81, some 82, some 83, some 84, some 85, some 4]
      [.eq (.int .i64 0), .eq (.bool false), .eq (.bool false), .eq (.int .i64 (i : Int)), .eq (.bool true), .eq (.bool true), .eq (.int .i64 ((i : Int) + 76)), .eq (.slice A l0.length c), .eq (.int .i64 (l0.length : Int)), .eq (.bool true), .eq (.bool true), .eq (.bool true), .eq (.agg (hdc X Y t b n)), .rd (LB), .eq (.slice A l0.length c), .eq (.int .i64 (i : Int)), .eq (.int .i64 ((i : Int) + 76)), .eq (VB), .eq (.bool true), .eq (.bool true), .eq (.bool true), .eq (.bool true), .eq (.bool true), .eq (.bool true), .eq (.bool true)]
      (by kernel_rfl) (by kernel_rfl) (hord_of (by decide)) (by kernel_rfl) (by decide) (by decide) (htail_of (by decide)) ?_ _ (by rfl) ?_
    · intro x tm wr htm hx i hi hd K hK
      simp only [fillA, List.setIfInBounds_toArray, List.set_cons_zero, List.set_cons_succ] at htm
      subst htm
      have hcs : i = 0 ∨ i = 1 ∨ i = 2 ∨ i = 3 ∨ i = 4 ∨ i = 5 ∨ i = 6 ∨ i = 7 ∨ i = 8 ∨ i = 9 ∨ i = 10 ∨ i = 11 ∨ i = 12 ∨ i = 13 ∨ i = 14 ∨ i = 15 ∨ i = 16 ∨ i = 17 ∨ i = 18 ∨ i = 19 ∨ i = 20 ∨ i = 21 ∨ i = 22 ∨ i = 23 ∨ i = 24 := by omega
      clear hi
      rcases hcs with rfl | rfl | rfl | rfl | rfl | rfl | rfl | rfl | rfl | rfl | rfl | rfl | rfl | rfl | rfl | rfl | rfl | rfl | rfl | rfl | rfl | rfl | rfl | rfl | rfl
      · exact wpOp_of rfl rfl (wp_val_of (some 62) rfl (.int .i64 0) (by kernel_rfl) (hK _ _ rfl (Nx.refl _)))
      · have e0 : x 0 = .int .i64 0 := hd 0 (by decide)
        generalize x 0 = y0 at e0 hK ⊢
        subst e0
        exact wpOp_of rfl rfl (wp_val_of (some 63) rfl (.bool false) (by kernel_rfl) (hK _ _ rfl (Nx.refl _)))
      · have e1 : x 1 = .bool false := hd 1 (by decide)
        generalize x 1 = y1 at e1 hK ⊢
        subst e1
        exact wpOp_of rfl rfl (wp_val_of (some 64) rfl (.bool false) (by kernel_rfl) (hK _ _ rfl (Nx.refl _)))
      · have e2 : x 2 = .bool false := hd 2 (by decide)
        generalize x 2 = y2 at e2 hK ⊢
        subst e2
        exact wpOp_g rfl (by rfl) (wp_val_of (some 65) rfl (.int .i64 (i : Int)) (by kernel_rfl) (hK _ _ rfl (Nx.refl _)))
      · have e3 : x 3 = .int .i64 (i : Int) := hd 3 (by decide)
        have e2 : x 2 = .bool false := hd 2 (by decide)
        generalize x 3 = y3 at e3 hK ⊢
        subst e3
        generalize x 2 = y2 at e2 hK ⊢
        subst e2
        exact wpOp_g rfl (by rfl) (wp_geq_of (some 66) rfl _ _ _ _ rfl .i64 (i : Int) 0 rfl rfl (by omega) (hK _ _ rfl (Nx.refl _)))
      · have e4 : x 4 = .bool true := hd 4 (by decide)
        have e2 : x 2 = .bool false := hd 2 (by decide)
        generalize x 4 = y4 at e4 hK ⊢
        subst e4
        generalize x 2 = y2 at e2 hK ⊢
        subst e2
        exact wpOp_g rfl (by rfl) (wp_val_of (some 67) rfl (.bool true) (by kernel_rfl) (hK _ _ rfl (Nx.refl _)))
      · have e5 : x 5 = .bool true := hd 5 (by decide)
        generalize x 5 = y5 at e5 hK ⊢
        subst e5
        exact wpOp_g rfl (by rfl) (wp_val_of (some 68) rfl (.int .i64 ((i : Int) + 76)) (by kernel_rfl) (hK _ _ rfl (Nx.refl _)))
      · have e5 : x 5 = .bool true := hd 5 (by decide)
        generalize x 5 = y5 at e5 hK ⊢
        subst e5
        exact wpOp_g rfl (by rfl) (wp_val_of (some 69) rfl (.slice A l0.length c) (by kernel_rfl) (hK _ _ rfl (Nx.refl _)))
      · have e7 : x 7 = .slice A l0.length c := hd 7 (by decide)
        have e5 : x 5 = .bool true := hd 5 (by decide)
        generalize x 7 = y7 at e7 hK ⊢
        subst e7
        generalize x 5 = y5 at e5 hK ⊢
        subst e5
        exact wpOp_g rfl (by rfl) (wp_val_of (some 70) rfl (.int .i64 (l0.length : Int)) (by kernel_rfl) (hK _ _ rfl (Nx.refl _)))
      · have e6 : x 6 = .int .i64 ((i : Int) + 76) := hd 6 (by decide)
        have e8 : x 8 = .int .i64 (l0.length : Int) := hd 8 (by decide)
        have e5 : x 5 = .bool true := hd 5 (by decide)
        generalize x 6 = y6 at e6 hK ⊢
        subst e6
        generalize x 8 = y8 at e8 hK ⊢
        subst e8
        generalize x 5 = y5 at e5 hK ⊢
        subst e5
        exact wpOp_g rfl (by rfl) (wp_leq_of (some 71) rfl _ _ _ _ rfl .i64 ((i : Int) + 76) (l0.length : Int) rfl rfl HIE.out (hK _ _ rfl (Nx.refl _)))
      · have e5 : x 5 = .bool true := hd 5 (by decide)
        have e9 : x 9 = .bool true := hd 9 (by decide)
        have e2 : x 2 = .bool false := hd 2 (by decide)
        generalize x 5 = y5 at e5 hK ⊢
        subst e5
        generalize x 9 = y9 at e9 hK ⊢
        subst e9
        generalize x 2 = y2 at e2 hK ⊢
        subst e2
        exact wpOp_g rfl (by rfl) (wp_val_of (some 72) rfl (.bool true) (by kernel_rfl) (hK _ _ rfl (Nx.refl _)))
      · have e10 : x 10 = .bool true := hd 10 (by decide)
        have e5 : x 5 = .bool true := hd 5 (by decide)
        have e2 : x 2 = .bool false := hd 2 (by decide)
        generalize x 10 = y10 at e10 hK ⊢
        subst e10
        generalize x 5 = y5 at e5 hK ⊢
        subst e5
        generalize x 2 = y2 at e2 hK ⊢
        subst e2
        exact wpOp_g rfl (by rfl) (wp_val_of (some 73) rfl (.bool true) (by kernel_rfl) (hK _ _ rfl (Nx.refl _)))
      · have e11 : x 11 = .bool true := hd 11 (by decide)
        generalize x 11 = y11 at e11 hK ⊢
        subst e11
        exact wpOp_g rfl (by rfl) (wp_load_row_of (some 74) rfl 32 (.tmp 5) rfl (u1.heap.size) rfl 32 ((hdc X Y t b n)) _ (RA.nx hx) Tryd.underlying32 rfl ix.out (hK _ _ rfl (Nx.refl _)))
      · have e12 : x 12 = .agg (hdc X Y t b n) := hd 12 (by decide)
        have e11 : x 11 = .bool true := hd 11 (by decide)
        generalize x 12 = y12 at e12 hK ⊢
        subst e12
        generalize x 11 = y11 at e11 hK ⊢
        subst e11
        refine wpOp_g rfl (by rfl) (wp_callp_of (some 75) rfl 18 #[(.agg (hdc X Y t b n))] (by kernel_rfl) (fun v w' => Rd w' v (LB)) ?_ hK)
        exact (HPU.out wr).mono fun _ _ ⟨v, h1, h2, h3⟩ => ⟨v, h1, h2.rd, h3⟩
      · have e11 : x 11 = .bool true := hd 11 (by decide)
        generalize x 11 = y11 at e11 hK ⊢
        subst e11
        exact wpOp_g rfl (by rfl) (wp_val_of (some 76) rfl (.slice A l0.length c) (by kernel_rfl) (hK _ _ rfl (Nx.refl _)))
      · have e11 : x 11 = .bool true := hd 11 (by decide)
        generalize x 11 = y11 at e11 hK ⊢
        subst e11
        exact wpOp_g rfl (by rfl) (wp_val_of (some 77) rfl (.int .i64 (i : Int)) (by kernel_rfl) (hK _ _ rfl (Nx.refl _)))
      · have e11 : x 11 = .bool true := hd 11 (by decide)
        generalize x 11 = y11 at e11 hK ⊢
        subst e11
        exact wpOp_g rfl (by rfl) (wp_val_of (some 78) rfl (.int .i64 ((i : Int) + 76)) (by kernel_rfl) (hK _ _ rfl (Nx.refl _)))
      · have e14 : x 14 = .slice A l0.length c := hd 14 (by decide)
        have e15 : x 15 = .int .i64 (i : Int) := hd 15 (by decide)
        have e16 : x 16 = .int .i64 ((i : Int) + 76) := hd 16 (by decide)
        have e11 : x 11 = .bool true := hd 11 (by decide)
        generalize x 14 = y14 at e14 hK ⊢
        subst e14
        generalize x 15 = y15 at e15 hK ⊢
        subst e15
        generalize x 16 = y16 at e16 hK ⊢
        subst e16
        generalize x 11 = y11 at e11 hK ⊢
        subst e11
        exact wpOp_g rfl (by rfl) (wp_slice_of (some 79) rfl 34 (.tmp 76) (some (.tmp 77)) (some (.tmp 78)) none rfl VB (HCUT.out wr) (hK _ _ rfl (Nx.refl _)))
      · have r13 : Rd wr (x 13) (LB) := hd 13 (by decide)
        have e17 : x 17 = VB := hd 17 (by decide)
        have e11 : x 11 = .bool true := hd 11 (by decide)
        generalize x 17 = y17 at e17 hK ⊢
        subst e17
        generalize x 11 = y11 at e11 hK ⊢
        subst e11
        refine wpOp_g rfl (by rfl) (wp_call_of (some 80) rfl 17 #[x 13, y17] (by kernel_rfl) (.bool true) ?_ (fun w' h => hK _ w' rfl h))
        exact same_yes _ _ LB wr r13 (HBT.out.nx hx)
      · have e11 : x 11 = .bool true := hd 11 (by decide)
        have e18 : x 18 = .bool true := hd 18 (by decide)
        have e2 : x 2 = .bool false := hd 2 (by decide)
        generalize x 11 = y11 at e11 hK ⊢
        subst e11
        generalize x 18 = y18 at e18 hK ⊢
        subst e18
        generalize x 2 = y2 at e2 hK ⊢
        subst e2
        exact wpOp_g rfl (by rfl) (wp_val_of (some 81) rfl (.bool true) (by kernel_rfl) (hK _ _ rfl (Nx.refl _)))
      · have e2 : x 2 = .bool false := hd 2 (by decide)
        have e19 : x 19 = .bool true := hd 19 (by decide)
        generalize x 2 = y2 at e2 hK ⊢
        subst e2
        generalize x 19 = y19 at e19 hK ⊢
        subst e19
        exact wpOp_of rfl rfl (wp_val_of (some 82) rfl (.bool true) (by kernel_rfl) (hK _ _ rfl (Nx.refl _)))
      · have e20 : x 20 = .bool true := hd 20 (by decide)
        have e18 : x 18 = .bool true := hd 18 (by decide)
        generalize x 20 = y20 at e20 hK ⊢
        subst e20
        generalize x 18 = y18 at e18 hK ⊢
        subst e18
        exact wpOp_of rfl rfl (wp_val_of (some 83) rfl (.bool true) (by kernel_rfl) (hK _ _ rfl (Nx.refl _)))
      · have e21 : x 21 = .bool true := hd 21 (by decide)
        generalize x 21 = y21 at e21 hK ⊢
        subst e21
        refine wpOp_g rfl (by rfl) (wp_call_of (some 84) rfl 24 #[] (by kernel_rfl) (.bool true) ?_ (fun w' h => hK _ w' rfl h))
        exact hwork_any wr
      · have e21 : x 21 = .bool true := hd 21 (by decide)
        have e22 : x 22 = .bool true := hd 22 (by decide)
        generalize x 21 = y21 at e21 hK ⊢
        subst e21
        generalize x 22 = y22 at e22 hK ⊢
        subst e22
        exact wpOp_of rfl rfl (wp_val_of (some 85) rfl (.bool true) (by kernel_rfl) (hK _ _ rfl (Nx.refl _)))
      · have e23 : x 23 = .bool true := hd 23 (by decide)
        generalize x 23 = y23 at e23 hK ⊢
        subst e23
        exact wpOp_of rfl rfl (wp_val_of (some 4) rfl (.bool true) (by kernel_rfl) (hK _ _ rfl (Nx.refl _)))
    · intro x tm wr htm hx hv
      simp only [fillA, List.setIfInBounds_toArray, List.set_cons_zero, List.set_cons_succ] at htm
      subst htm
      have e24 : x 24 = .bool true := hv 24 (by decide)
      rw [e24]
      go_wp2_with fail
      go_ret
      exact ⟨rfl, N4.out.trans hx⟩
  · clear HE24
    rcases hE0 with hE0 | hE0
    · subst hE0
      clear HOK HBW
      refine wp_region_nx 25 [[], [0], [1], [2], [3, 2], [4, 2, 2], [5], [5], [7, 5], [6, 8, 5], [5, 9, 2], [10, 5, 2], [11], [12, 11, 11], [11], [11], [11], [14, 15, 16, 11], [13, 17, 13, 11], [11, 18, 2], [2, 19], [20, 18], [21, 21], [21, 22], [23, 22, 0, 1, 2, 3, 4, 5, 6, 7, 8, 9, 10, 11, 12, 13, 14, 15, 16, 17, 18, 19, 20, 21, 22, 23]] [some 62, some 63, some 64, some 65, some 66, some 67, some 68, some 69, some 70, some 71, some 72, some 73, some 74, some 75, some 76, some 77, some 78, some 79, some 80, some 81, some 82, some 83, some 84, some 85, some 4]
        [.eq (.int .i64 2), .eq (.bool true), .eq (.bool true), .eq (undef), .eq (undef), .eq (undef), .eq (undef), .eq (undef), .eq (undef), .eq (undef), .eq (undef), .eq (undef), .eq (undef), .eq (undef), .eq (undef), .eq (undef), .eq (undef), .eq (undef), .eq (undef), .eq (undef), .eq (.bool true), .eq (.bool true), .eq (.bool true), .eq (.bool true), .eq (.bool true)]
        (by kernel_rfl) (by kernel_rfl) (hord_of (by decide)) (by kernel_rfl) (by decide) (by decide) (htail_of (by decide)) ?_ _ (by rfl) ?_
      · intro x tm wr htm hx i hi hd K hK
        simp only [fillA, List.setIfInBounds_toArray, List.set_cons_zero, List.set_cons_succ] at htm
        subst htm
        have hcs : i = 0 ∨ i = 1 ∨ i = 2 ∨ i = 3 ∨ i = 4 ∨ i = 5 ∨ i = 6 ∨ i = 7 ∨ i = 8 ∨ i = 9 ∨ i = 10 ∨ i = 11 ∨ i = 12 ∨ i = 13 ∨ i = 14 ∨ i = 15 ∨ i = 16 ∨ i = 17 ∨ i = 18 ∨ i = 19 ∨ i = 20 ∨ i = 21 ∨ i = 22 ∨ i = 23 ∨ i = 24 := by omega
        clear hi
        rcases hcs with rfl | rfl | rfl | rfl | rfl | rfl | rfl | rfl | rfl | rfl | rfl | rfl | rfl | rfl | rfl | rfl | rfl | rfl | rfl | rfl | rfl | rfl | rfl | rfl | rfl
        · exact wpOp_of rfl rfl (wp_val_of (some 62) rfl (.int .i64 2) (by kernel_rfl) (hK _ _ rfl (Nx.refl _)))
        · have e0 : x 0 = .int .i64 2 := hd 0 (by decide)
          generalize x 0 = y0 at e0 hK ⊢
          subst e0
          exact wpOp_of rfl rfl (wp_val_of (some 63) rfl (.bool true) (by kernel_rfl) (hK _ _ rfl (Nx.refl _)))
        · have e1 : x 1 = .bool true := hd 1 (by decide)
          generalize x 1 = y1 at e1 hK ⊢
          subst e1
          exact wpOp_of rfl rfl (wp_val_of (some 64) rfl (.bool true) (by kernel_rfl) (hK _ _ rfl (Nx.refl _)))
        · have e2 : x 2 = .bool true := hd 2 (by decide)
          generalize x 2 = y2 at e2 hK ⊢
          subst e2
          exact wpOp_no rfl (by rfl) (hK _ _ rfl (Nx.refl _))
        · have e3 : x 3 = undef := hd 3 (by decide)
          have e2 : x 2 = .bool true := hd 2 (by decide)
          generalize x 3 = y3 at e3 hK ⊢
          subst e3
          generalize x 2 = y2 at e2 hK ⊢
          subst e2
          exact wpOp_no rfl (by rfl) (hK _ _ rfl (Nx.refl _))
        · have e4 : x 4 = undef := hd 4 (by decide)
          have e2 : x 2 = .bool true := hd 2 (by decide)
          generalize x 4 = y4 at e4 hK ⊢
          subst e4
          generalize x 2 = y2 at e2 hK ⊢
          subst e2
          exact wpOp_no rfl (by rfl) (hK _ _ rfl (Nx.refl _))
        · have e5 : x 5 = undef := hd 5 (by decide)
          generalize x 5 = y5 at e5 hK ⊢
          subst e5
          exact wpOp_no rfl (by rfl) (hK _ _ rfl (Nx.refl _))
        · have e5 : x 5 = undef := hd 5 (by decide)
          generalize x 5 = y5 at e5 hK ⊢
          subst e5
          exact wpOp_no rfl (by rfl) (hK _ _ rfl (Nx.refl _))
        · have e7 : x 7 = undef := hd 7 (by decide)
          have e5 : x 5 = undef := hd 5 (by decide)
          generalize x 7 = y7 at e7 hK ⊢
          subst e7
          generalize x 5 = y5 at e5 hK ⊢
          subst e5
          exact wpOp_no rfl (by rfl) (hK _ _ rfl (Nx.refl _))
        · have e6 : x 6 = undef := hd 6 (by decide)
          have e8 : x 8 = undef := hd 8 (by decide)
          have e5 : x 5 = undef := hd 5 (by decide)
          generalize x 6 = y6 at e6 hK ⊢
          subst e6
          generalize x 8 = y8 at e8 hK ⊢
          subst e8
          generalize x 5 = y5 at e5 hK ⊢
          subst e5
          exact wpOp_no rfl (by rfl) (hK _ _ rfl (Nx.refl _))
        · have e5 : x 5 = undef := hd 5 (by decide)
          have e9 : x 9 = undef := hd 9 (by decide)
          have e2 : x 2 = .bool true := hd 2 (by decide)
          generalize x 5 = y5 at e5 hK ⊢
          subst e5
          generalize x 9 = y9 at e9 hK ⊢
          subst e9
          generalize x 2 = y2 at e2 hK ⊢
          subst e2
          exact wpOp_no rfl (by rfl) (hK _ _ rfl (Nx.refl _))
        · have e10 : x 10 = undef := hd 10 (by decide)
          have e5 : x 5 = undef := hd 5 (by decide)
          have e2 : x 2 = .bool true := hd 2 (by decide)
          generalize x 10 = y10 at e10 hK ⊢
          subst e10
          generalize x 5 = y5 at e5 hK ⊢
          subst e5
          generalize x 2 = y2 at e2 hK ⊢
          subst e2
          exact wpOp_no rfl (by rfl) (hK _ _ rfl (Nx.refl _))
        · have e11 : x 11 = undef := hd 11 (by decide)
          generalize x 11 = y11 at e11 hK ⊢
          subst e11
          exact wpOp_no rfl (by rfl) (hK _ _ rfl (Nx.refl _))
        · have e12 : x 12 = undef := hd 12 (by decide)
          have e11 : x 11 = undef := hd 11 (by decide)
          generalize x 12 = y12 at e12 hK ⊢
          subst e12
          generalize x 11 = y11 at e11 hK ⊢
          subst e11
          exact wpOp_no rfl (by rfl) (hK _ _ rfl (Nx.refl _))
        · have e11 : x 11 = undef := hd 11 (by decide)
          generalize x 11 = y11 at e11 hK ⊢
          subst e11
          exact wpOp_no rfl (by rfl) (hK _ _ rfl (Nx.refl _))
        · have e11 : x 11 = undef := hd 11 (by decide)
          generalize x 11 = y11 at e11 hK ⊢
          subst e11
          exact wpOp_no rfl (by rfl) (hK _ _ rfl (Nx.refl _))
        · have e11 : x 11 = undef := hd 11 (by decide)
          generalize x 11 = y11 at e11 hK ⊢
          subst e11
          exact wpOp_no rfl (by rfl) (hK _ _ rfl (Nx.refl _))
        · have e14 : x 14 = undef := hd 14 (by decide)
          have e15 : x 15 = undef := hd 15 (by decide)
          have e16 : x 16 = undef := hd 16 (by decide)
          have e11 : x 11 = undef := hd 11 (by decide)
          generalize x 14 = y14 at e14 hK ⊢
          subst e14
          generalize x 15 = y15 at e15 hK ⊢
          subst e15
          generalize x 16 = y16 at e16 hK ⊢
          subst e16
          generalize x 11 = y11 at e11 hK ⊢
          subst e11
          exact wpOp_no rfl (by rfl) (hK _ _ rfl (Nx.refl _))
        · have e13 : x 13 = undef := hd 13 (by decide)
          have e17 : x 17 = undef := hd 17 (by decide)
          have e11 : x 11 = undef := hd 11 (by decide)
          generalize x 13 = y13 at e13 hK ⊢
          subst e13
          generalize x 17 = y17 at e17 hK ⊢
          subst e17
          generalize x 11 = y11 at e11 hK ⊢
          subst e11
          exact wpOp_no rfl (by rfl) (hK _ _ rfl (Nx.refl _))
        · have e11 : x 11 = undef := hd 11 (by decide)
          have e18 : x 18 = undef := hd 18 (by decide)
          have e2 : x 2 = .bool true := hd 2 (by decide)
          generalize x 11 = y11 at e11 hK ⊢
          subst e11
          generalize x 18 = y18 at e18 hK ⊢
          subst e18
          generalize x 2 = y2 at e2 hK ⊢
          subst e2
          exact wpOp_no rfl (by rfl) (hK _ _ rfl (Nx.refl _))
        · have e2 : x 2 = .bool true := hd 2 (by decide)
          have e19 : x 19 = undef := hd 19 (by decide)
          generalize x 2 = y2 at e2 hK ⊢
          subst e2
          generalize x 19 = y19 at e19 hK ⊢
          subst e19
          exact wpOp_of rfl rfl (wp_val_of (some 82) rfl (.bool true) (by kernel_rfl) (hK _ _ rfl (Nx.refl _)))
        · have e20 : x 20 = .bool true := hd 20 (by decide)
          have e18 : x 18 = undef := hd 18 (by decide)
          generalize x 20 = y20 at e20 hK ⊢
          subst e20
          generalize x 18 = y18 at e18 hK ⊢
          subst e18
          exact wpOp_of rfl rfl (wp_val_of (some 83) rfl (.bool true) (by kernel_rfl) (hK _ _ rfl (Nx.refl _)))
        · have e21 : x 21 = .bool true := hd 21 (by decide)
          generalize x 21 = y21 at e21 hK ⊢
          subst e21
          refine wpOp_g rfl (by rfl) (wp_call_of (some 84) rfl 24 #[] (by kernel_rfl) (.bool true) ?_ (fun w' h => hK _ w' rfl h))
          exact hwork_any wr
        · have e21 : x 21 = .bool true := hd 21 (by decide)
          have e22 : x 22 = .bool true := hd 22 (by decide)
          generalize x 21 = y21 at e21 hK ⊢
          subst e21
          generalize x 22 = y22 at e22 hK ⊢
          subst e22
          exact wpOp_of rfl rfl (wp_val_of (some 85) rfl (.bool true) (by kernel_rfl) (hK _ _ rfl (Nx.refl _)))
        · have e23 : x 23 = .bool true := hd 23 (by decide)
          generalize x 23 = y23 at e23 hK ⊢
          subst e23
          exact wpOp_of rfl rfl (wp_val_of (some 4) rfl (.bool true) (by kernel_rfl) (hK _ _ rfl (Nx.refl _)))
      · intro x tm wr htm hx hv
        simp only [fillA, List.setIfInBounds_toArray, List.set_cons_zero, List.set_cons_succ] at htm
        subst htm
        have e24 : x 24 = .bool true := hv 24 (by decide)
        rw [e24]
        go_wp2_with fail
        go_ret
        exact ⟨rfl, N4.out.trans hx⟩
    · subst hE0
      clear HOK HBW
      refine wp_region_nx 25 [[], [0], [1], [2], [3, 2], [4, 2, 2], [5], [5], [7, 5], [6, 8, 5], [5, 9, 2], [10, 5, 2], [11], [12, 11, 11], [11], [11], [11], [14, 15, 16, 11], [13, 17, 13, 11], [11, 18, 2], [2, 19], [20, 18], [21, 21], [21, 22], [23, 22, 0, 1, 2, 3, 4, 5, 6, 7, 8, 9, 10, 11, 12, 13, 14, 15, 16, 17, 18, 19, 20, 21, 22, 23]] [some 62, some 63, some 64, some 65, some 66, some 67, some 68, some 69, some 70, some 71, some 72, some 73, some 74, some 75, some 76, some 77, some 78, some 79, some 80, some 81, some 82, some 83, some 84, some 85, some 4]
        [.eq (.int .i64 4), .eq (.bool true), .eq (.bool true), .eq (undef), .eq (undef), .eq (undef), .eq (undef), .eq (undef), .eq (undef), .eq (undef), .eq (undef), .eq (undef), .eq (undef), .eq (undef), .eq (undef), .eq (undef), .eq (undef), .eq (undef), .eq (undef), .eq (undef), .eq (.bool true), .eq (.bool true), .eq (.bool true), .eq (.bool true), .eq (.bool true)]
        (by kernel_rfl) (by kernel_rfl) (hord_of (by decide)) (by kernel_rfl) (by decide) (by decide) (htail_of (by decide)) ?_ _ (by rfl) ?_
      · intro x tm wr htm hx i hi hd K hK
        simp only [fillA, List.setIfInBounds_toArray, List.set_cons_zero, List.set_cons_succ] at htm
        subst htm
        have hcs : i = 0 ∨ i = 1 ∨ i = 2 ∨ i = 3 ∨ i = 4 ∨ i = 5 ∨ i = 6 ∨ i = 7 ∨ i = 8 ∨ i = 9 ∨ i = 10 ∨ i = 11 ∨ i = 12 ∨ i = 13 ∨ i = 14 ∨ i = 15 ∨ i = 16 ∨ i = 17 ∨ i = 18 ∨ i = 19 ∨ i = 20 ∨ i = 21 ∨ i = 22 ∨ i = 23 ∨ i = 24 := by omega
        clear hi
        rcases hcs with rfl | rfl | rfl | rfl | rfl | rfl | rfl | rfl | rfl | rfl | rfl | rfl | rfl | rfl | rfl | rfl | rfl | rfl | rfl | rfl | rfl | rfl | rfl | rfl | rfl
        · exact wpOp_of rfl rfl (wp_val_of (some 62) rfl (.int .i64 4) (by kernel_rfl) (hK _ _ rfl (Nx.refl _)))
        · have e0 : x 0 = .int .i64 4 := hd 0 (by decide)
          generalize x 0 = y0 at e0 hK ⊢
          subst e0
          exact wpOp_of rfl rfl (wp_val_of (some 63) rfl (.bool true) (by kernel_rfl) (hK _ _ rfl (Nx.refl _)))
        · have e1 : x 1 = .bool true := hd 1 (by decide)
          generalize x 1 = y1 at e1 hK ⊢
          subst e1
          exact wpOp_of rfl rfl (wp_val_of (some 64) rfl (.bool true) (by kernel_rfl) (hK _ _ rfl (Nx.refl _)))
        · have e2 : x 2 = .bool true := hd 2 (by decide)
          generalize x 2 = y2 at e2 hK ⊢
          subst e2
          exact wpOp_no rfl (by rfl) (hK _ _ rfl (Nx.refl _))
        · have e3 : x 3 = undef := hd 3 (by decide)
          have e2 : x 2 = .bool true := hd 2 (by decide)
          generalize x 3 = y3 at e3 hK ⊢
          subst e3
          generalize x 2 = y2 at e2 hK ⊢
          subst e2
          exact wpOp_no rfl (by rfl) (hK _ _ rfl (Nx.refl _))
        · have e4 : x 4 = undef := hd 4 (by decide)
          have e2 : x 2 = .bool true := hd 2 (by decide)
          generalize x 4 = y4 at e4 hK ⊢
          subst e4
          generalize x 2 = y2 at e2 hK ⊢
          subst e2
          exact wpOp_no rfl (by rfl) (hK _ _ rfl (Nx.refl _))
        · have e5 : x 5 = undef := hd 5 (by decide)
          generalize x 5 = y5 at e5 hK ⊢
          subst e5
          exact wpOp_no rfl (by rfl) (hK _ _ rfl (Nx.refl _))
        · have e5 : x 5 = undef := hd 5 (by decide)
          generalize x 5 = y5 at e5 hK ⊢
          subst e5
          exact wpOp_no rfl (by rfl) (hK _ _ rfl (Nx.refl _))
        · have e7 : x 7 = undef := hd 7 (by decide)
          have e5 : x 5 = undef := hd 5 (by decide)
          generalize x 7 = y7 at e7 hK ⊢
          subst e7
          generalize x 5 = y5 at e5 hK ⊢
          subst e5
          exact wpOp_no rfl (by rfl) (hK _ _ rfl (Nx.refl _))
        · have e6 : x 6 = undef := hd 6 (by decide)
          have e8 : x 8 = undef := hd 8 (by decide)
          have e5 : x 5 = undef := hd 5 (by decide)
          generalize x 6 = y6 at e6 hK ⊢
          subst e6
          generalize x 8 = y8 at e8 hK ⊢
          subst e8
          generalize x 5 = y5 at e5 hK ⊢
          subst e5
          exact wpOp_no rfl (by rfl) (hK _ _ rfl (Nx.refl _))
        · have e5 : x 5 = undef := hd 5 (by decide)
          have e9 : x 9 = undef := hd 9 (by decide)
          have e2 : x 2 = .bool true := hd 2 (by decide)
          generalize x 5 = y5 at e5 hK ⊢
          subst e5
          generalize x 9 = y9 at e9 hK ⊢
          subst e9
          generalize x 2 = y2 at e2 hK ⊢
          subst e2
          exact wpOp_no rfl (by rfl) (hK _ _ rfl (Nx.refl _))
        · have e10 : x 10 = undef := hd 10 (by decide)
          have e5 : x 5 = undef := hd 5 (by decide)
          have e2 : x 2 = .bool true := hd 2 (by decide)
          generalize x 10 = y10 at e10 hK ⊢
          subst e10
          generalize x 5 = y5 at e5 hK ⊢
          subst e5
          generalize x 2 = y2 at e2 hK ⊢
          subst e2
          exact wpOp_no rfl (by rfl) (hK _ _ rfl (Nx.refl _))
        · have e11 : x 11 = undef := hd 11 (by decide)
          generalize x 11 = y11 at e11 hK ⊢
          subst e11
          exact wpOp_no rfl (by rfl) (hK _ _ rfl (Nx.refl _))
        · have e12 : x 12 = undef := hd 12 (by decide)
          have e11 : x 11 = undef := hd 11 (by decide)
          generalize x 12 = y12 at e12 hK ⊢
          subst e12
          generalize x 11 = y11 at e11 hK ⊢
          subst e11
          exact wpOp_no rfl (by rfl) (hK _ _ rfl (Nx.refl _))
        · have e11 : x 11 = undef := hd 11 (by decide)
          generalize x 11 = y11 at e11 hK ⊢
          subst e11
          exact wpOp_no rfl (by rfl) (hK _ _ rfl (Nx.refl _))
        · have e11 : x 11 = undef := hd 11 (by decide)
          generalize x 11 = y11 at e11 hK ⊢
          subst e11
          exact wpOp_no rfl (by rfl) (hK _ _ rfl (Nx.refl _))
        · have e11 : x 11 = undef := hd 11 (by decide)
          generalize x 11 = y11 at e11 hK ⊢
          subst e11
          exact wpOp_no rfl (by rfl) (hK _ _ rfl (Nx.refl _))
        · have e14 : x 14 = undef := hd 14 (by decide)
          have e15 : x 15 = undef := hd 15 (by decide)
          have e16 : x 16 = undef := hd 16 (by decide)
          have e11 : x 11 = undef := hd 11 (by decide)
          generalize x 14 = y14 at e14 hK ⊢
          subst e14
          generalize x 15 = y15 at e15 hK ⊢
          subst e15
          generalize x 16 = y16 at e16 hK ⊢
          subst e16
          generalize x 11 = y11 at e11 hK ⊢
          subst e11
          exact wpOp_no rfl (by rfl) (hK _ _ rfl (Nx.refl _))
        · have e13 : x 13 = undef := hd 13 (by decide)
          have e17 : x 17 = undef := hd 17 (by decide)
          have e11 : x 11 = undef := hd 11 (by decide)
          generalize x 13 = y13 at e13 hK ⊢
          subst e13
          generalize x 17 = y17 at e17 hK ⊢
          subst e17
          generalize x 11 = y11 at e11 hK ⊢
          subst e11
          exact wpOp_no rfl (by rfl) (hK _ _ rfl (Nx.refl _))
        · have e11 : x 11 = undef := hd 11 (by decide)
          have e18 : x 18 = undef := hd 18 (by decide)
          have e2 : x 2 = .bool true := hd 2 (by decide)
          generalize x 11 = y11 at e11 hK ⊢
          subst e11
          generalize x 18 = y18 at e18 hK ⊢
          subst e18
          generalize x 2 = y2 at e2 hK ⊢
          subst e2
          exact wpOp_no rfl (by rfl) (hK _ _ rfl (Nx.refl _))
        · have e2 : x 2 = .bool true := hd 2 (by decide)
          have e19 : x 19 = undef := hd 19 (by decide)
          generalize x 2 = y2 at e2 hK ⊢
          subst e2
          generalize x 19 = y19 at e19 hK ⊢
          subst e19
          exact wpOp_of rfl rfl (wp_val_of (some 82) rfl (.bool true) (by kernel_rfl) (hK _ _ rfl (Nx.refl _)))
        · have e20 : x 20 = .bool true := hd 20 (by decide)
          have e18 : x 18 = undef := hd 18 (by decide)
          generalize x 20 = y20 at e20 hK ⊢
          subst e20
          generalize x 18 = y18 at e18 hK ⊢
          subst e18
          exact wpOp_of rfl rfl (wp_val_of (some 83) rfl (.bool true) (by kernel_rfl) (hK _ _ rfl (Nx.refl _)))
        · have e21 : x 21 = .bool true := hd 21 (by decide)
          generalize x 21 = y21 at e21 hK ⊢
          subst e21
          refine wpOp_g rfl (by rfl) (wp_call_of (some 84) rfl 24 #[] (by kernel_rfl) (.bool true) ?_ (fun w' h => hK _ w' rfl h))
          exact hwork_any wr
        · have e21 : x 21 = .bool true := hd 21 (by decide)
          have e22 : x 22 = .bool true := hd 22 (by decide)
          generalize x 21 = y21 at e21 hK ⊢
          subst e21
          generalize x 22 = y22 at e22 hK ⊢
          subst e22
          exact wpOp_of rfl rfl (wp_val_of (some 85) rfl (.bool true) (by kernel_rfl) (hK _ _ rfl (Nx.refl _)))
        · have e23 : x 23 = .bool true := hd 23 (by decide)
          generalize x 23 = y23 at e23 hK ⊢
          subst e23
          exact wpOp_of rfl rfl (wp_val_of (some 4) rfl (.bool true) (by kernel_rfl) (hK _ _ rfl (Nx.refl _)))
      · intro x tm wr htm hx hv
        simp only [fillA, List.setIfInBounds_toArray, List.set_cons_zero, List.set_cons_succ] at htm
        subst htm
        have e24 : x 24 = .bool true := hv 24 (by decide)
        rw [e24]
        go_wp2_with fail
        go_ret
        exact ⟨rfl, N4.out.trans hx⟩
end Go.Proofs.YtjbeemoobmagnaaDoor
