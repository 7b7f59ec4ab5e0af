/- THE DOCUMENT'S LAYER 6: low, MayOut, May, PutOut. -/
import Derived.Test.YtniaiglfgknfiaaCoinR5
import Derived.Test.YtniaiglfgknfiaaRegSep
import Derived.Test.YtniaiglfgknfiaaRegG
import Derived.Test.YtniaiglfgknfiaaShaSl
namespace Go.Proofs.Ytniaiglfgknfiaa
open Go Go.RowKit
set_option linter.unusedVariables false
set_option linter.unusedSimpArgs false
set_option linter.unusedVariables false
set_option linter.unusedSimpArgs false

theorem Row.blw {w w' : World} {g B : Nat} {cs : Array Value} {t : TypeId} (h : Row w g cs t) (k : Below B w w') (hg : g < B) : Row w' g cs t := (k.block g hg).trans h
theorem run_mk1c (x : UInt8) (w : World) : (Instr.buildSlice 29 1 #[(0, .int .u8 (x.toNat : Int))]).run Try.prog w = .ok (.slice (some ⟨w.heap.size, 0, none⟩) 1 1) (w.alloc (.cells #[.int .u8 (x.toNat : Int)] 5)) := by kernel_rfl
theorem rlow_any (n : Nat) (s : Int) (w : World) (hn : (n : Int) ≤ 18446744073709551615) : Calls Try.prog 37 #[.int .u64 (n : Int), .int .i64 s] w fun e w' => ∃ v', e = .returned v' ∧ Own w.heap.size w' v' (putL n s) ∧ Nx w w' := by
  have H := Lib.hid (refPut_any n s w hn)
  generalize putL n s = l at *
  generalize putE n s = E at *
  go_enter Try.func37, Try.ntmps37
  go_wp2_with fail
  refine H.out.mono ?_
  rintro e w1 ⟨v, rfl, o1, n1⟩
  have O1 := Lib.hid o1
  have N1 := Lib.hid n1
  clear o1 n1
  go_wp2_with fail
  go_ret
  exact ⟨_, rfl, O1.out, N1.out⟩

theorem mayOut_any (v : Nat) (lv : Value) (l : List UInt8) (w : World) (h : Rd w lv l) (hr : l.length ≤ 140737488355328) :
    Calls Try.prog 36 #[.agg #[.int .u64 (v : Int), lv]] w fun e w' => e = .returned (.bool (mayB v l.length)) ∧ Nx w w' := by
  obtain ⟨A, c, rfl, -⟩ := h
  unfold mayB
  have h1 : decide ((v : Int) ≤ 1125899906842624) = decide (v ≤ 1125899906842624) := by rw [Bool.eq_iff_iff, decide_eq_true_iff, decide_eq_true_iff]; omega
  have h2 : decide ((l.length : Int) ≤ 100) = decide (l.length ≤ 100) := by rw [Bool.eq_iff_iff, decide_eq_true_iff, decide_eq_true_iff]; omega
  have HR := Lib.hid hr
  rw [← h1, ← h2]
  clear h1 h2 hr
  have NW := Lib.hid ((Nx.refl w).alloc (.cells #[.int .u64 (v : Int), .slice A l.length c] 33))
  have RP0 := Row.new w #[.int .u64 (v : Int), .slice A l.length c] 33 _ rfl
  have k0 := RP0.cell (i := 0) (v := .int .u64 (v : Int)) rfl
  have k1 := RP0.cell (i := 1) (v := .slice A l.length c) rfl
  clear RP0
  rcases hx : decide ((v : Int) ≤ 1125899906842624) with _ | _
  · go_enter Try.func36, Try.ntmps36
    go_wp2_with fail
    go_ret
    exact ⟨rfl, NW.out⟩
  · rcases hy : decide ((l.length : Int) ≤ 100) with _ | _
    all_goals
      go_enter Try.func36, Try.ntmps36
      go_wp2_with fail
      go_ret
      exact ⟨rfl, NW.out⟩

theorem may_any (tx : List UInt8) (n h v : Nat) (b : Bool) (lv : Value) (l : List UInt8) (w : World) (ht : tx.length = 32) (hl : Rd w lv l) (hr : l.length ≤ 140737488355328) :
    Calls Try.prog 39 #[.agg (ccel tx n h v b lv)] w fun e w' => e = .returned (.bool (mayB v l.length)) ∧ Nx w w' := by
  have HM := Lib.hid (fun w h => mayOut_any v lv l w h hr)
  have RL := Lib.hid hl
  obtain ⟨A, c, rfl, -⟩ := hl
  generalize mayB v l.length = M at *
  have NW := Lib.hid ((Nx.refl w).alloc (.cells (ccel tx n h v b (.slice A l.length c)) 31))
  have RP0 := Row.new w (ccel tx n h v b (.slice A l.length c)) 31 _ rfl
  have k0 := RP0.cell (ccel_v tx n h v b (.slice A l.length c) ht)
  have k1 := RP0.cell (ccel_l tx n h v b (.slice A l.length c) ht)
  have HBU := Lib.hid (built_out v A l.length c)
  clear RP0 ht hr
  go_enter Try.func39, Try.ntmps39
  go_wp2_with (first | (refine wpList_built (some 7) rfl rfl 33 _ rfl [(0, .int .u64 (v : Int)), (1, .slice A l.length c)] (by kernel_rfl) _ HBU.out ?_))
  refine (HM.out _ (RL.out.nx NW.out)).mono ?_
  rintro e w1 ⟨rfl, n1⟩
  have N1 := Lib.hid n1
  clear n1
  go_wp2_with fail
  go_ret
  exact ⟨rfl, NW.out.trans N1.out⟩

set_option maxRecDepth 100000 in
set_option maxHeartbeats 4000000 in
theorem rputOut_any (v : Nat) (lk : Value) (l : List UInt8) (w : World) (hvv : (v : Int) ≤ 18446744073709551615) (hl : Rd w lk l) (hr : l.length ≤ 140737488351232) :
    Calls Try.prog 10 #[.agg #[.int .u64 (v : Int), lk]] w fun e w' => ∃ r, e = .returned (.tuple #[r, .int .i64 (outE v l)]) ∧ Own w.heap.size w' r (outB v l) ∧ Nx w w' := by
  have HM := Lib.hid (fun w h => mayOut_any v lk l w h (by omega))
  have RL0 := Lib.hid hl
  obtain ⟨A, c, rfl, -⟩ := hl
  unfold outE outB
  obtain ⟨hz3, hzs3⟩ := zero_of_info info_out
  have io := Lib.hid hzs3
  clear hzs3 hz3
  have R0 := Row.new w #[.int .u64 (v : Int), .slice A l.length c] 33 _ rfl
  have NW := Lib.hid ((Nx.refl w).alloc (.cells #[.int .u64 (v : Int), .slice A l.length c] 33))
  rcases hb : mayB v l.length with _ | _
  · rw [hb] at HM
    rw [if_neg (by simp), if_neg (by simp)]
    go_enter Try.func10, Try.ntmps10
    go_wp2_with (first | (refine wpList_load_row rfl 33 (.tmp 1) rfl w.heap.size rfl 33 #[.int .u64 (v : Int), .slice A l.length c] (0, 0) _ R0 Try.underlying33 rfl io.out ?_))
    refine (HM.out _ (RL0.out.alloc _)).mono ?_
    rintro e w1 ⟨rfl, n1⟩
    have N1 := Lib.hid n1
    clear n1 R0
    go_wp2_with fail
    go_ret2
    exact ⟨_, rfl, Own.nil _ _, NW.out.trans N1.out⟩
  · obtain ⟨hv, hn⟩ := mayB_true hb
    rw [hb] at HM
    rw [if_pos rfl, if_pos rfl]
    have HN1 := Lib.hid (fun w => rlow_any v 8 w hvv)
    have HRW := Lib.hid (fun w lv h => refRow_any lv l w h hr)
    have HL1 := Lib.hid (putL_short v 8)
    have HL2 := Lib.hid (rowL_short l hn)
    generalize putL v 8 = B1 at *
    generalize rowL l = B2 at *
    have HC0 : Hid ((#[.int .u64 (v : Int), .slice A l.length c] : Array Value)[0]? = some (.int .u64 (v : Int))) := Lib.hid rfl
    have HC1 : Hid ((#[.int .u64 (v : Int), .slice A l.length c] : Array Value)[1]? = some (.slice A l.length c)) := Lib.hid rfl
    clear hv hn hr hb hvv
    go_enter Try.func10, Try.ntmps10
    go_wp2_with (first | (refine wpList_load_row rfl 33 (.tmp 1) rfl w.heap.size rfl 33 #[.int .u64 (v : Int), .slice A l.length c] (0, 0) _ R0 Try.underlying33 rfl io.out ?_))
    refine (HM.out _ (RL0.out.alloc _)).mono ?_
    rintro e W ⟨rfl, n1⟩
    have N1 := Lib.hid (NW.out.trans n1)
    have K0 := R0.nx n1
    have RL := Lib.hid (RL0.out.nx N1.out)
    have HB := Lib.hid N1.out.size
    clear n1 R0 RL0 NW
    go_wp2_with fail
    refine wp_region_sep (W.heap.size) 7 [[], [0], [1], [], [3], [4, 2], [2, 5, 5], [6, 6, 0, 1, 2, 3, 4, 5, 6], [7, 0, 1, 2, 3, 4, 5, 6, 7]] [some 7, some 8, some 9, some 10, some 11, some 12, some 13] [0, 0, 2, 0, 0, 2, 2] [none, none, some 6, none, none, none, none, none, none] [none, none, none, none, none, none, some 2]
      [{ V := .pointer (some ⟨w.heap.size, 0, none⟩) }, { V := .int .u64 (v : Int) }, { l := B1 }, { V := .pointer (some ⟨w.heap.size, 1, none⟩) }, { V := .slice A l.length c }, { l := B2 }, { l := B1 ++ B2 }]
      (Nat.le_refl _) (by kernel_rfl) (by kernel_rfl) (hord_of (by decide)) (by kernel_rfl) (by decide) (by decide) (htail_of (by decide)) (stat4 (needs := [[], [0], [1], [], [3], [4, 2], [2, 5, 5], [6, 6, 0, 1, 2, 3, 4, 5, 6], [7, 0, 1, 2, 3, 4, 5, 6, 7]]) (cons := [none, none, some 6, none, none, none, none, none, none]) (src := [none, none, none, none, none, none, some 2]) (by decide)) (statS (by decide)) ?_ ?_ ?_ ?_ _ (by rfl) ?_
    · intro j hj h1 v w w' _ _
      have : j = 0 ∨ j = 1 ∨ j = 2 ∨ j = 3 ∨ j = 4 ∨ j = 5 ∨ j = 6 := by omega
      rcases this with rfl | rfl | rfl | rfl | rfl | rfl | rfl <;> exact trivial
    · intro j hj h1
      have : j = 0 ∨ j = 1 ∨ j = 2 ∨ j = 3 ∨ j = 4 ∨ j = 5 ∨ j = 6 := by omega
      rcases this with rfl | rfl | rfl | rfl | rfl | rfl | rfl <;> cases h1
    · intro i j hi _ _ h1
      have : i = 0 ∨ i = 1 ∨ i = 2 ∨ i = 3 ∨ i = 4 ∨ i = 5 ∨ i = 6 := by omega
      rcases this with rfl | rfl | rfl | rfl | rfl | rfl | rfl <;> cases h1
    · intro x tm wr htm hbl hB i hi hd K hK
      simp only [fillA, List.setIfInBounds_toArray, List.set_cons_zero, List.set_cons_succ] at htm
      subst htm
      have hcs : i = 0 ∨ i = 1 ∨ i = 2 ∨ i = 3 ∨ i = 4 ∨ i = 5 ∨ i = 6 := by omega
      clear hi
      rcases hcs with rfl | rfl | rfl | rfl | rfl | rfl | rfl
      · exact wpOp_of rfl rfl (wp_val_of (some 7) rfl (.pointer (some ⟨w.heap.size, 0, none⟩)) (by kernel_rfl) (hK _ _ ⟨rfl, Nx.refl _⟩))
      · have e0 : x 0 = .pointer (some ⟨w.heap.size, 0, none⟩) := hd 0 (by decide)
        generalize x 0 = y0 at e0 hK ⊢
        subst e0
        exact wpOp_of rfl rfl (wp_load_cell (some 8) rfl 28 (.tmp 7) rfl (w.heap.size) 0 rfl (.int .u64 (v : Int)) _ ((Row.blw K0 hbl K0.lt).cell HC0.out) Try.underlying28 rfl (hK _ _ ⟨rfl, Nx.refl _⟩))
      · have e1 : x 1 = .int .u64 (v : Int) := hd 1 (by decide)
        generalize x 1 = y1 at e1 hK ⊢
        subst e1
        exact wpOp_of rfl rfl (wp_callp_of (some 9) rfl 37 #[(.int .u64 (v : Int)), .int .i64 8] (by kernel_rfl) (fun v w' => Own wr.heap.size w' v (B1)) (HN1.out wr) (fun v w' h1 h2 => hK v w' ⟨h1, h2⟩))
      · exact wpOp_of rfl rfl (wp_val_of (some 10) rfl (.pointer (some ⟨w.heap.size, 1, none⟩)) (by kernel_rfl) (hK _ _ ⟨rfl, Nx.refl _⟩))
      · have e3 : x 3 = .pointer (some ⟨w.heap.size, 1, none⟩) := hd 3 (by decide)
        generalize x 3 = y3 at e3 hK ⊢
        subst e3
        exact wpOp_of rfl rfl (wp_load_cell (some 11) rfl 29 (.tmp 10) rfl (w.heap.size) 1 rfl (.slice A l.length c) _ ((Row.blw K0 hbl K0.lt).cell HC1.out) Try.underlying29 rfl (hK _ _ ⟨rfl, Nx.refl _⟩))
      · have e4 : x 4 = .slice A l.length c := hd 4 (by decide)
        generalize x 4 = y4 at e4 hK ⊢
        subst e4
        exact wpOp_of rfl rfl (wp_callp_of (some 12) rfl 38 #[(.slice A l.length c)] (by kernel_rfl) (fun v w' => Own wr.heap.size w' v (B2)) (HRW.out wr _ (RL.out.nx hbl)) (fun v w' h1 h2 => hK v w' ⟨h1, h2⟩))
      · have o2 : Own (W.heap.size) wr (x 2) (B1) := hd 2 (by decide) (by decide)
        have o5 : Own (W.heap.size) wr (x 5) (B2) := hd 5 (by decide) (by decide)
        exact wpOp_of rfl rfl (wp_app_of (some 13) rfl (.tmp 9) (.tmp 12) 29 rfl Try.underlying29 info_u8p (W.heap.size) (x 2) (x 5) (B1) (B2) rfl rfl o2 (o5.rd) (by have := HL1.out; have := HL2.out; omega) hB (fun v' w' h1 h2 h3 => hK v' w' ⟨h1, h2, h3⟩))
    · intro x tm wr htm hbl hv
      simp only [fillA, List.setIfInBounds_toArray, List.set_cons_zero, List.set_cons_succ] at htm
      subst htm
      have o6 := Lib.hid ((hv 6 (by decide) (by decide)).mono HB.out)
      have NF := Lib.hid (N1.out.trans hbl)
      generalize x 6 = y at *
      clear hv hbl K0
      go_wp2_with fail
      go_ret2
      exact ⟨_, rfl, o6.out, NF.out⟩
end Go.Proofs.Ytniaiglfgknfiaa