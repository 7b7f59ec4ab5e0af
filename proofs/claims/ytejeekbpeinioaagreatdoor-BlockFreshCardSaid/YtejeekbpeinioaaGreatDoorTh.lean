/- TEXTS OF OUR OWN, IN ONE FILE. -/
import Derived.Test.YtejeekbpeinioaaGreatDoorTg
import Derived.Test.YtejeekbpeinioaaGreatDoorTb
import Derived.Test.YtejeekbpeinioaaGreatDoorTd
section
namespace Go.Proofs.YtejeekbpeinioaaGreatDoor
open Go Go.RowKit
set_option linter.unusedVariables false
set_option linter.unusedSimpArgs false
set_option linter.unusedVariables false
set_option linter.unusedSimpArgs false

theorem Row.blw {w w' : World} {g B : Nat} {cs : Array Value} {t : TypeId} (h : Row w g cs t) (k : Below B w w') (hg : g < B) : Row w' g cs t := (k.block g hg).trans h
theorem run_mk1c (x : UInt8) (w : World) : (Instr.buildSlice 32 1 #[(0, .int .u8 (x.toNat : Int))]).run Tryz.prog w = .ok (.slice (some ⟨w.heap.size, 0, none⟩) 1 1) (w.alloc (.cells #[.int .u8 (x.toNat : Int)] 5)) := by kernel_rfl
theorem rlow_any (n : Nat) (s : Int) (w : World) (hn : (n : Int) ≤ 18446744073709551615) : Calls Tryz.prog 111 #[.int .u64 (n : Int), .int .i64 s] w fun e w' => ∃ v', e = .returned v' ∧ Own w.heap.size w' v' (putL n s) ∧ Nx w w' := by
  have H := Lib.hid (refPut_any n s w hn)
  generalize putL n s = l at *
  generalize putE n s = E at *
  go_enter Tryz.func111, Tryz.ntmps111
  go_wp2_with fail
  refine H.out.mono ?_
  rintro e w1 ⟨v, rfl, o1, n1⟩
  have O1 := Lib.hid o1
  have N1 := Lib.hid n1
  clear o1 n1
  go_wp2_with fail
  go_ret
  exact ⟨_, rfl, O1.out, N1.out⟩

theorem mayOut_any (v : Nat) (lv : Value) (l : List UInt8) (w : World) (h : Rd w lv l) (hr : l.length ≤ 140737488355328) :
    Calls Tryz.prog 91 #[.agg #[.int .u64 (v : Int), lv]] w fun e w' => e = .returned (.bool (mayB v l.length)) ∧ Nx w w' := by
  obtain ⟨A, c, rfl, -⟩ := h
  unfold mayB
  have h1 : decide ((v : Int) ≤ 1125899906842624) = decide (v ≤ 1125899906842624) := by rw [Bool.eq_iff_iff, decide_eq_true_iff, decide_eq_true_iff]; omega
  have h2 : decide ((l.length : Int) ≤ 100) = decide (l.length ≤ 100) := by rw [Bool.eq_iff_iff, decide_eq_true_iff, decide_eq_true_iff]; omega
  have HR := Lib.hid hr
  rw [← h1, ← h2]
  clear h1 h2 hr
  have NW := Lib.hid ((Nx.refl w).alloc (.cells #[.int .u64 (v : Int), .slice A l.length c] 62))
  have RP0 := Row.new w #[.int .u64 (v : Int), .slice A l.length c] 62 _ rfl
  have k0 := RP0.cell (i := 0) (v := .int .u64 (v : Int)) rfl
  have k1 := RP0.cell (i := 1) (v := .slice A l.length c) rfl
  clear RP0
  rcases hx : decide ((v : Int) ≤ 1125899906842624) with _ | _
  · go_enter Tryz.func91, Tryz.ntmps91
    go_wp2_with fail
    go_ret
    exact ⟨rfl, NW.out⟩
  · rcases hy : decide ((l.length : Int) ≤ 100) with _ | _
    all_goals
      go_enter Tryz.func91, Tryz.ntmps91
      go_wp2_with fail
      go_ret
      exact ⟨rfl, NW.out⟩

set_option maxRecDepth 100000 in
set_option maxHeartbeats 4000000 in
theorem rputOut_any (v : Nat) (lk : Value) (l : List UInt8) (w : World) (hvv : (v : Int) ≤ 18446744073709551615) (hl : Rd w lk l) (hr : l.length ≤ 140737488351232) :
    Calls Tryz.prog 95 #[.agg #[.int .u64 (v : Int), lk]] w fun e w' => ∃ r, e = .returned (.tuple #[r, .int .i64 (outE v l)]) ∧ Own w.heap.size w' r (outB v l) ∧ Nx w w' := by
  have HM := Lib.hid (fun w h => mayOut_any v lk l w h (by omega))
  have RL0 := Lib.hid hl
  obtain ⟨A, c, rfl, -⟩ := hl
  unfold outE outB
  obtain ⟨hz3, hzs3⟩ := zero_of_info info_out
  have io := Lib.hid hzs3
  clear hzs3 hz3
  have R0 := Row.new w #[.int .u64 (v : Int), .slice A l.length c] 62 _ rfl
  have NW := Lib.hid ((Nx.refl w).alloc (.cells #[.int .u64 (v : Int), .slice A l.length c] 62))
  rcases hb : mayB v l.length with _ | _
  · rw [hb] at HM
    rw [if_neg (by simp), if_neg (by simp)]
    go_enter Tryz.func95, Tryz.ntmps95
    go_wp2_with (first | (refine wpList_load_row rfl 62 (.tmp 1) rfl w.heap.size rfl 62 #[.int .u64 (v : Int), .slice A l.length c] (0, 0) _ R0 Tryz.underlying62 rfl io.out ?_))
    refine (HM.out _ (RL0.out.alloc _)).mono ?_
    rintro e w1 ⟨rfl, n1⟩
    have N1 := Lib.hid n1
    clear n1 R0
    go_wp2_with fail
    go_ret2
    exact ⟨_, rfl, Own.nil _ _, NW.out.trans N1.out⟩
  · obtain ⟨hv, hn⟩ := mayB_true hb
    rw [hb] at HM
    rw [if_pos rfl, if_pos rfl]
    have HN1 := Lib.hid (fun w => rlow_any v 8 w hvv)
    have HRW := Lib.hid (fun w lv h => refRow_any lv l w h hr)
    have HL1 := Lib.hid (putL_short v 8)
    have HL2 := Lib.hid (rowL_short l hn)
    generalize putL v 8 = B1 at *
    generalize rowL l = B2 at *
    have HC0 : Hid ((#[.int .u64 (v : Int), .slice A l.length c] : Array Value)[0]? = some (.int .u64 (v : Int))) := Lib.hid rfl
    have HC1 : Hid ((#[.int .u64 (v : Int), .slice A l.length c] : Array Value)[1]? = some (.slice A l.length c)) := Lib.hid rfl
    clear hv hn hr hb hvv
    go_enter Tryz.func95, Tryz.ntmps95
    go_wp2_with (first | (refine wpList_load_row rfl 62 (.tmp 1) rfl w.heap.size rfl 62 #[.int .u64 (v : Int), .slice A l.length c] (0, 0) _ R0 Tryz.underlying62 rfl io.out ?_))
    refine (HM.out _ (RL0.out.alloc _)).mono ?_
    rintro e W ⟨rfl, n1⟩
    have N1 := Lib.hid (NW.out.trans n1)
    have K0 := R0.nx n1
    have RL := Lib.hid (RL0.out.nx N1.out)
    have HB := Lib.hid N1.out.size
    clear n1 R0 RL0 NW
    go_wp2_with fail
    refine wp_region_sep (W.heap.size) 7 [[], [0], [1], [], [3], [4, 2], [2, 5, 5], [6, 6, 0, 1, 2, 3, 4, 5, 6], [7, 0, 1, 2, 3, 4, 5, 6, 7]] [some 7, some 8, some 9, some 10, some 11, some 12, some 13] [0, 0, 2, 0, 0, 2, 2] [none, none, some 6, none, none, none, none, none, none] [none, none, none, none, none, none, some 2]
      [{ V := .pointer (some ⟨w.heap.size, 0, none⟩) }, { V := .int .u64 (v : Int) }, { l := B1 }, { V := .pointer (some ⟨w.heap.size, 1, none⟩) }, { V := .slice A l.length c }, { l := B2 }, { l := B1 ++ B2 }]
      (Nat.le_refl _) (by kernel_rfl) (by kernel_rfl) (hord_of (by decide)) (by kernel_rfl) (by decide) (by decide) (htail_of (by decide)) (stat4 (needs := [[], [0], [1], [], [3], [4, 2], [2, 5, 5], [6, 6, 0, 1, 2, 3, 4, 5, 6], [7, 0, 1, 2, 3, 4, 5, 6, 7]]) (cons := [none, none, some 6, none, none, none, none, none, none]) (src := [none, none, none, none, none, none, some 2]) (by decide)) (statS (by decide)) ?_ ?_ ?_ ?_ _ (by rfl) ?_
    · intro j hj h1 v w w' _ _
      have : j = 0 ∨ j = 1 ∨ j = 2 ∨ j = 3 ∨ j = 4 ∨ j = 5 ∨ j = 6 := by omega
      rcases this with rfl | rfl | rfl | rfl | rfl | rfl | rfl <;> exact trivial
    · intro j hj h1
      have : j = 0 ∨ j = 1 ∨ j = 2 ∨ j = 3 ∨ j = 4 ∨ j = 5 ∨ j = 6 := by omega
      rcases this with rfl | rfl | rfl | rfl | rfl | rfl | rfl <;> cases h1
    · intro i j hi _ _ h1
      have : i = 0 ∨ i = 1 ∨ i = 2 ∨ i = 3 ∨ i = 4 ∨ i = 5 ∨ i = 6 := by omega
      rcases this with rfl | rfl | rfl | rfl | rfl | rfl | rfl <;> cases h1
    · intro x tm wr htm hbl hB i hi hd K hK
      simp only [fillA, List.setIfInBounds_toArray, List.set_cons_zero, List.set_cons_succ] at htm
      subst htm
      have hcs : i = 0 ∨ i = 1 ∨ i = 2 ∨ i = 3 ∨ i = 4 ∨ i = 5 ∨ i = 6 := by omega
      clear hi
      rcases hcs with rfl | rfl | rfl | rfl | rfl | rfl | rfl
      · exact wpOp_of rfl rfl (wp_val_of (some 7) rfl (.pointer (some ⟨w.heap.size, 0, none⟩)) (by kernel_rfl) (hK _ _ ⟨rfl, Nx.refl _⟩))
      · have e0 : x 0 = .pointer (some ⟨w.heap.size, 0, none⟩) := hd 0 (by decide)
        generalize x 0 = y0 at e0 hK ⊢
        subst e0
        exact wpOp_of rfl rfl (wp_load_cell (some 8) rfl 60 (.tmp 7) rfl (w.heap.size) 0 rfl (.int .u64 (v : Int)) _ ((Row.blw K0 hbl K0.lt).cell HC0.out) Tryz.underlying60 rfl (hK _ _ ⟨rfl, Nx.refl _⟩))
      · have e1 : x 1 = .int .u64 (v : Int) := hd 1 (by decide)
        generalize x 1 = y1 at e1 hK ⊢
        subst e1
        exact wpOp_of rfl rfl (wp_callp_of (some 9) rfl 111 #[(.int .u64 (v : Int)), .int .i64 8] (by kernel_rfl) (fun v w' => Own wr.heap.size w' v (B1)) (HN1.out wr) (fun v w' h1 h2 => hK v w' ⟨h1, h2⟩))
      · exact wpOp_of rfl rfl (wp_val_of (some 10) rfl (.pointer (some ⟨w.heap.size, 1, none⟩)) (by kernel_rfl) (hK _ _ ⟨rfl, Nx.refl _⟩))
      · have e3 : x 3 = .pointer (some ⟨w.heap.size, 1, none⟩) := hd 3 (by decide)
        generalize x 3 = y3 at e3 hK ⊢
        subst e3
        exact wpOp_of rfl rfl (wp_load_cell (some 11) rfl 32 (.tmp 10) rfl (w.heap.size) 1 rfl (.slice A l.length c) _ ((Row.blw K0 hbl K0.lt).cell HC1.out) Tryz.underlying32 rfl (hK _ _ ⟨rfl, Nx.refl _⟩))
      · have e4 : x 4 = .slice A l.length c := hd 4 (by decide)
        generalize x 4 = y4 at e4 hK ⊢
        subst e4
        exact wpOp_of rfl rfl (wp_callp_of (some 12) rfl 94 #[(.slice A l.length c)] (by kernel_rfl) (fun v w' => Own wr.heap.size w' v (B2)) (HRW.out wr _ (RL.out.nx hbl)) (fun v w' h1 h2 => hK v w' ⟨h1, h2⟩))
      · have o2 : Own (W.heap.size) wr (x 2) (B1) := hd 2 (by decide) (by decide)
        have o5 : Own (W.heap.size) wr (x 5) (B2) := hd 5 (by decide) (by decide)
        exact wpOp_of rfl rfl (wp_app_of (some 13) rfl (.tmp 9) (.tmp 12) 32 rfl Tryz.underlying32 info_u8p (W.heap.size) (x 2) (x 5) (B1) (B2) rfl rfl o2 (o5.rd) (by have := HL1.out; have := HL2.out; omega) hB (fun v' w' h1 h2 h3 => hK v' w' ⟨h1, h2, h3⟩))
    · intro x tm wr htm hbl hv
      simp only [fillA, List.setIfInBounds_toArray, List.set_cons_zero, List.set_cons_succ] at htm
      subst htm
      have o6 := Lib.hid ((hv 6 (by decide) (by decide)).mono HB.out)
      have NF := Lib.hid (N1.out.trans hbl)
      generalize x 6 = y at *
      clear hv hbl K0
      go_wp2_with fail
      go_ret2
      exact ⟨_, rfl, o6.out, NF.out⟩
end Go.Proofs.YtejeekbpeinioaaGreatDoor
end

section
namespace Go.Proofs.YtejeekbpeinioaaGreatDoor
open Go Go.RowKit
set_option linter.unusedVariables false
set_option linter.unusedSimpArgs false
set_option linter.unusedVariables false
set_option linter.unusedSimpArgs false

set_option maxRecDepth 100000 in
set_option maxHeartbeats 4000000 in
theorem rputPoint_any (tx : List UInt8) (n h : Nat) (ht : tx.length = 32) (hn : n < 65536) (hh : h < 4294967296) (w : World) :
    Calls Tryz.prog 93 #[.agg (pcel tx n h)] w fun e w' => ∃ r, e = .returned r ∧ Own w.heap.size w' r (ptL tx n h) ∧ Nx w w' := by
  have HLT := Lib.hid ht
  have HCT := Lib.hid (pcel_tx tx n h)
  have HCN := Lib.hid (pcel_n tx n h ht)
  have HCH := Lib.hid (pcel_h tx n h ht)
  have HC1 := Lib.hid (fun w => conv16 n hn w)
  have HC2 := Lib.hid (fun w => conv32 h hh w)
  have HN1 := Lib.hid (fun w => rlow_any n 2 w (by omega))
  have HN2 := Lib.hid (fun w => rlow_any h 4 w (by omega))
  have HL1 := Lib.hid (putL_short n 2)
  have HL2 := Lib.hid (putL_short h 4)
  have R0 := Row.new w (pcel tx n h) 57 _ rfl
  have NW := Lib.hid ((Nx.refl w).alloc (.cells (pcel tx n h) 57))
  have HS0 : Hid ((w.alloc (.cells (pcel tx n h) 57)).heap.size = w.heap.size + 1) := Lib.hid (by simp)
  unfold ptL
  generalize putL n 2 = B1 at *
  generalize putL h 4 = B2 at *
  have HT2 : Hid (tx.length < 100) := Lib.hid (by omega)
  clear ht hn hh
  go_enter Tryz.func93, Tryz.ntmps93
  go_wp2_with fail
  generalize w.alloc (.cells (pcel tx n h) 57) = W at *
  have HGB : Hid (w.heap.size < W.heap.size) := Lib.hid (by have := HS0.out; omega)
  go_loopw [3, 4] (fun u i wr => ∃ (j : Nat) (uu : Value), j ≤ 32 ∧ i = .int .i64 j ∧ uu = u ∧ Own W.heap.size wr uu (tx.take j) ∧ Nx W wr) (fun _ i _ => 32 - (intOf i).toNat)
  case atStart => exact ⟨0, _, by omega, rfl, rfl, by simpa using Own.nil _ _, Nx.refl _⟩
  case round =>
    obtain ⟨j, u, hj, rfl, rfl, hown, hb⟩ := hrel
    by_cases hlt : j < 32
    · have hcell : wr.cell? ⟨w.heap.size, j, none⟩ = some (bv (tx[j]'(by have := HLT.out; omega))) := (R0.nx hb).cell (HCT.out j (by have := HLT.out; omega))
      have hlt' : (j : Int) < 32 := by omega
      generalize htj : tx[j]'(by have := HLT.out; omega) = tj at *
      have HTJ := Lib.hid htj
      clear htj
      have hcell' : wr.cell? ⟨w.heap.size, j, none⟩ = some (.int .u8 (tj.toNat : Int)) := hcell
      have HSR := Lib.hid hb.size
      go_wp2_with (at_builtin; refine wpList_app rfl (.tmp 9) (.tmp 14) _ rfl Tryz.underlying32 info_u8p W.heap.size _ (.slice (some ⟨wr.heap.size, 0, none⟩) 1 1) _ [tj] rfl rfl (hown.alloc _) (Rd.one _ _ _ _ rfl) ?c2 ?c3 ?_)
      case c2 => simp; omega
      case c3 => have := HSR.out; simp; omega
      intro v' w' hown' hb' _
      go_wp2
      go_roundw
      case rel =>
        refine ⟨j + 1, _, by omega, by go_num, rfl, ?_, (hb.alloc _).app hb'⟩
        rw [List.take_add_one, List.getElem?_eq_getElem (by have := HLT.out; omega), HTJ.out]
        exact hown'
      case measure => simp [intOf]; omega
    · obtain rfl : j = 32 := by omega
      have OU := Lib.hid hown
      have HN := Lib.hid hb
      have HSW : Hid (W.heap.size ≤ wr.heap.size) := Lib.hid hb.size
      have K0 := R0.nx hb
      rw [List.take_of_length_le (by have := HLT.out; omega)] at OU
      clear hown hb R0 hlt hj
      go_wp2_with fail
      refine wp_region_sep (W.heap.size) 11 [[], [], [1], [2], [3], [0, 4, 4], [], [6], [7], [8, 5], [5, 9, 9], [10, 10, 0, 1, 2, 3, 4, 5, 6, 7, 8, 9, 10]] [some 16, some 17, some 18, some 19, some 20, some 21, some 22, some 23, some 24, some 25, some 26] [3, 0, 0, 0, 2, 2, 0, 0, 0, 2, 2] [some 5, none, none, none, none, some 10, none, none, none, none, none, none] [none, none, none, none, none, some 0, none, none, none, none, some 5]
        [{ V := u, l := tx }, { V := .pointer (some ⟨w.heap.size, 32, none⟩) }, { V := .int .u16 (n : Int) }, { V := .int .u64 (n : Int) }, { l := B1 }, { l := tx ++ B1 }, { V := .pointer (some ⟨w.heap.size, 33, none⟩) }, { V := .int .u32 (h : Int) }, { V := .int .u64 (h : Int) }, { l := B2 }, { l := (tx ++ B1) ++ B2 }]
        HSW.out (by kernel_rfl) (by kernel_rfl) (hord_of (by decide)) (by kernel_rfl) (by decide) (by decide) (htail_of (by decide)) (stat4 (needs := [[], [], [1], [2], [3], [0, 4, 4], [], [6], [7], [8, 5], [5, 9, 9], [10, 10, 0, 1, 2, 3, 4, 5, 6, 7, 8, 9, 10]]) (cons := [some 5, none, none, none, none, some 10, none, none, none, none, none, none]) (src := [none, none, none, none, none, some 0, none, none, none, none, some 5]) (by decide)) (statS (by decide)) ?_ ?_ ?_ ?_ _ (by rfl) ?_
      · intro j hj h1 v w w' _ _
        have : j = 0 ∨ j = 1 ∨ j = 2 ∨ j = 3 ∨ j = 4 ∨ j = 5 ∨ j = 6 ∨ j = 7 ∨ j = 8 ∨ j = 9 ∨ j = 10 := by omega
        rcases this with rfl | rfl | rfl | rfl | rfl | rfl | rfl | rfl | rfl | rfl | rfl <;> exact trivial
      · intro j hj h1
        have : j = 0 ∨ j = 1 ∨ j = 2 ∨ j = 3 ∨ j = 4 ∨ j = 5 ∨ j = 6 ∨ j = 7 ∨ j = 8 ∨ j = 9 ∨ j = 10 := by omega
        rcases this with rfl | rfl | rfl | rfl | rfl | rfl | rfl | rfl | rfl | rfl | rfl
        · exact OU.out
        · cases h1
        · cases h1
        · cases h1
        · cases h1
        · cases h1
        · cases h1
        · cases h1
        · cases h1
        · cases h1
        · cases h1
      · intro i j hi hj hij h1 h2
        have h3 : i = 0 ∨ i = 1 ∨ i = 2 ∨ i = 3 ∨ i = 4 ∨ i = 5 ∨ i = 6 ∨ i = 7 ∨ i = 8 ∨ i = 9 ∨ i = 10 := by omega
        have h4 : j = 0 ∨ j = 1 ∨ j = 2 ∨ j = 3 ∨ j = 4 ∨ j = 5 ∨ j = 6 ∨ j = 7 ∨ j = 8 ∨ j = 9 ∨ j = 10 := by omega
        rcases h3 with rfl | rfl | rfl | rfl | rfl | rfl | rfl | rfl | rfl | rfl | rfl <;> first | (cases h1; done) | (rcases h4 with rfl | rfl | rfl | rfl | rfl | rfl | rfl | rfl | rfl | rfl | rfl <;> first | (cases h2; done) | exact absurd rfl hij)
      · intro x tm wr htm hbl hB i hi hd K hK
        simp only [fillA, List.setIfInBounds_toArray, List.set_cons_zero, List.set_cons_succ] at htm
        subst htm
        have hcs : i = 0 ∨ i = 1 ∨ i = 2 ∨ i = 3 ∨ i = 4 ∨ i = 5 ∨ i = 6 ∨ i = 7 ∨ i = 8 ∨ i = 9 ∨ i = 10 := by omega
        clear hi
        rcases hcs with rfl | rfl | rfl | rfl | rfl | rfl | rfl | rfl | rfl | rfl | rfl
        · exact wpOp_of rfl rfl (wp_val_of (some 16) rfl (u) (by kernel_rfl) (hK _ _ ⟨rfl, Nx.refl _⟩))
        · exact wpOp_of rfl rfl (wp_val_of (some 17) rfl (.pointer (some ⟨w.heap.size, 32, none⟩)) (by kernel_rfl) (hK _ _ ⟨rfl, Nx.refl _⟩))
        · have e1 : x 1 = .pointer (some ⟨w.heap.size, 32, none⟩) := hd 1 (by decide)
          generalize x 1 = y1 at e1 hK ⊢
          subst e1
          exact wpOp_of rfl rfl (wp_load_cell (some 18) rfl 55 (.tmp 17) rfl (w.heap.size) 32 rfl (.int .u16 (n : Int)) _ ((Row.blw K0 hbl HGB.out).cell HCN.out) Tryz.underlying55 rfl (hK _ _ ⟨rfl, Nx.refl _⟩))
        · have e2 : x 2 = .int .u16 (n : Int) := hd 2 (by decide)
          generalize x 2 = y2 at e2 hK ⊢
          subst e2
          exact wpOp_of rfl rfl (wp_conv_of (some 19) rfl 55 60 (.tmp 18) rfl (.int .u64 (n : Int)) (HC1.out wr) (hK _ _ ⟨rfl, Nx.refl _⟩))
        · have e3 : x 3 = .int .u64 (n : Int) := hd 3 (by decide)
          generalize x 3 = y3 at e3 hK ⊢
          subst e3
          exact wpOp_of rfl rfl (wp_callp_of (some 20) rfl 111 #[(.int .u64 (n : Int)), .int .i64 2] (by kernel_rfl) (fun v w' => Own wr.heap.size w' v (B1)) (HN1.out wr) (fun v w' h1 h2 => hK v w' ⟨h1, h2⟩))
        · have p0 := hd 0 (by decide)
          have e0 : x 0 = u := p0.1
          have o0 : Own (W.heap.size) wr (x 0) (tx) := p0.2 (by decide)
          have o4 : Own (W.heap.size) wr (x 4) (B1) := hd 4 (by decide) (by decide)
          exact wpOp_of rfl rfl (wp_app_of (some 21) rfl (.tmp 16) (.tmp 20) 32 rfl Tryz.underlying32 info_u8p (W.heap.size) (x 0) (x 4) (tx) (B1) rfl rfl o0 (o4.rd) (by have := HLT.out; have := HL1.out; omega) hB (fun v' w' h1 h2 h3 => hK v' w' ⟨h1, h2, h3⟩))
        · exact wpOp_of rfl rfl (wp_val_of (some 22) rfl (.pointer (some ⟨w.heap.size, 33, none⟩)) (by kernel_rfl) (hK _ _ ⟨rfl, Nx.refl _⟩))
        · have e6 : x 6 = .pointer (some ⟨w.heap.size, 33, none⟩) := hd 6 (by decide)
          generalize x 6 = y6 at e6 hK ⊢
          subst e6
          exact wpOp_of rfl rfl (wp_load_cell (some 23) rfl 24 (.tmp 22) rfl (w.heap.size) 33 rfl (.int .u32 (h : Int)) _ ((Row.blw K0 hbl HGB.out).cell HCH.out) Tryz.underlying24 rfl (hK _ _ ⟨rfl, Nx.refl _⟩))
        · have e7 : x 7 = .int .u32 (h : Int) := hd 7 (by decide)
          generalize x 7 = y7 at e7 hK ⊢
          subst e7
          exact wpOp_of rfl rfl (wp_conv_of (some 24) rfl 24 60 (.tmp 23) rfl (.int .u64 (h : Int)) (HC2.out wr) (hK _ _ ⟨rfl, Nx.refl _⟩))
        · have e8 : x 8 = .int .u64 (h : Int) := hd 8 (by decide)
          generalize x 8 = y8 at e8 hK ⊢
          subst e8
          exact wpOp_of rfl rfl (wp_callp_of (some 25) rfl 111 #[(.int .u64 (h : Int)), .int .i64 4] (by kernel_rfl) (fun v w' => Own wr.heap.size w' v (B2)) (HN2.out wr) (fun v w' h1 h2 => hK v w' ⟨h1, h2⟩))
        · have o5 : Own (W.heap.size) wr (x 5) (tx ++ B1) := hd 5 (by decide) (by decide)
          have o9 : Own (W.heap.size) wr (x 9) (B2) := hd 9 (by decide) (by decide)
          exact wpOp_of rfl rfl (wp_app_of (some 26) rfl (.tmp 21) (.tmp 25) 32 rfl Tryz.underlying32 info_u8p (W.heap.size) (x 5) (x 9) ((tx ++ B1)) (B2) rfl rfl o5 (o9.rd) (by have := HLT.out; have := HL1.out; have := HL2.out; rw [List.length_append]; omega) hB (fun v' w' h1 h2 h3 => hK v' w' ⟨h1, h2, h3⟩))
      · intro x tm wr htm hbl hv
        simp only [fillA, List.setIfInBounds_toArray, List.set_cons_zero, List.set_cons_succ] at htm
        subst htm
        have o10 := Lib.hid ((hv 10 (by decide) (by decide)).mono (Nat.le_of_lt HGB.out))
        have NF := Lib.hid (NW.out.trans (HN.out.app hbl))
        generalize x 10 = y at *
        clear hv hbl K0
        go_wp2_with fail
        go_ret
        exact ⟨_, rfl, by simpa using o10.out, NF.out⟩

end Go.Proofs.YtejeekbpeinioaaGreatDoor
end

section
namespace Go.Proofs.YtejeekbpeinioaaGreatDoor
open Go Go.RowKit
set_option linter.unusedVariables false
set_option linter.unusedSimpArgs false
set_option linter.unusedVariables false
set_option linter.unusedSimpArgs false

theorem isSz_of {k : Nat} (hk : k = 1 ∨ k = 2 ∨ k = 4 ∨ k = 8) : isSz (k : Int) = true := by rcases hk with rfl | rfl | rfl | rfl <;> decide
theorem putL_low {n k : Nat} (hk : k = 1 ∨ k = 2 ∨ k = 4 ∨ k = 8) (hn : n < 256 ^ k) : putL n (k : Int) = low n k := by
  unfold putL putOk
  rw [isSz_of hk, Int.toNat_natCast]
  simp [hn]
theorem get_at {l : List UInt8} {i m : Nat} (hm : m = 1 ∨ m = 2 ∨ m = 4 ∨ m = 8) (h : i + m ≤ l.length) : getE l.length (i : Int) (m : Int) = 0 ∧ getN l (i : Int) (m : Int) = num ((l.drop i).take m) := by
  unfold getE getN
  rw [isSz_of hm, if_pos rfl, if_pos rfl, cutE_ok h, cutL_ok h]
  exact ⟨rfl, rfl⟩
theorem piece_mid {l pre x rest : List UInt8} (h : l = pre ++ x ++ rest) : (l.drop pre.length).take x.length = x := by
  rw [h]; exact drop_take_mid pre x rest

/-- A row is got where it stands, where it may be so long. -/
theorem gr_mid (pre row rest : List UInt8) (most : Int) (hm : (row.length : Int) ≤ most) (hn : (row.length : Int) ≤ 18446744073709551615) :
    gr (pre ++ rowL row ++ rest) (pre.length : Int) most = (row, (pre.length : Int) + ((rowL row).length : Int), 0) := by
  have h1 := gc_count pre (row ++ rest) row.length hn
  have e1 : pre ++ countL row.length ++ (row ++ rest) = pre ++ rowL row ++ rest := by simp [rowL]
  rw [e1] at h1
  have e2 : pre ++ rowL row ++ rest = (pre ++ countL row.length) ++ row ++ rest := by simp [rowL]
  have hl : (pre ++ countL row.length).length + row.length ≤ (pre ++ rowL row ++ rest).length := by rw [e2]; simp; omega
  have hp : (pre.length : Int) + ((countL row.length).length : Int) = (((pre ++ countL row.length).length : Nat) : Int) := by simp
  unfold gr
  rw [h1]
  simp only []
  rw [if_neg (by simp), if_neg (by omega), hp, cutE_ok hl, if_neg (by simp), cutL_ok hl, e2, drop_take_mid]
  simp [rowL]
  omega

/-- What is got as a count is the count of what is got, wherever it stands. -/
theorem gc_got {l : List UInt8} {at_ : Int} {n : Nat} {p : Int} (h : gc l at_ = (n, p, 0)) : ∃ i k : Nat, at_ = (i : Int) ∧ p = ((i + k : Nat) : Int) ∧ 1 ≤ k ∧ i + k ≤ l.length ∧ countL n = (l.drop i).take k := by
  rcases gc_cases l at_ with ⟨h1, h2⟩ | ⟨i, hi, h0, h1, hn, ⟨h2, h3⟩ | ⟨f, s, h2, h4, ⟨h5, h6⟩ | ⟨h5, h7, h6⟩ | ⟨h5, h8, h7, h6⟩⟩⟩
  · rw [h] at h2
    simp only [Prod.mk.injEq] at h2
    omega
  · rw [h] at h3
    simp only [Prod.mk.injEq] at h3
    obtain ⟨rfl, hp, _⟩ := h3
    refine ⟨i, 1, h0, by omega, by omega, by omega, ?_⟩
    have hx := l[i].toNat_lt
    have hb : behind l[i].toNat = 0 := by unfold behind; rw [if_pos h2]
    unfold countL
    rw [if_pos hb, List.drop_eq_getElem_cons hi, UInt8.ofNat_toNat]
    simp only [List.take_succ_cons, List.take_zero]
  · rw [h] at h6
    simp only [Prod.mk.injEq] at h6
    omega
  · rw [h] at h6
    simp only [Prod.mk.injEq] at h6
    omega
  · rw [h] at h6
    simp only [Prod.mk.injEq] at h6
    obtain ⟨hnn, hp, _⟩ := h6
    subst h0
    have hsz : isSz ((s : Nat) : Int) = true := by rcases h4 with ⟨_, rfl⟩ | ⟨_, rfl⟩ | ⟨_, rfl⟩ <;> decide
    have hN : getN l ((i : Int) + 1) (s : Nat) = num ((l.drop (i + 1)).take s) := by
      unfold getN
      rw [if_pos hsz]
      have := cutL_ok (l := l) (i := i + 1) (m := s) (by omega)
      rw [show ((i : Int) + 1) = ((i + 1 : Nat) : Int) by omega, this]
    rw [← hnn] at h7
    refine ⟨i, 1 + s, rfl, by omega, by omega, by omega, ?_⟩
    have hl : ((l.drop (i + 1)).take s).length = s := by simp; omega
    have hs0 : s ≠ 0 := by omega
    unfold countL
    rw [if_neg (by omega), h7, hnn, hN]
    have hlow : low (num ((l.drop (i + 1)).take s)) s = (l.drop (i + 1)).take s := by
      have := low_num ((l.drop (i + 1)).take s)
      rwa [hl] at this
    rw [hlow, List.drop_eq_getElem_cons hi]
    have hx : l[i].toNat = f := by simpa using h2
    have hm : mark s = l[i] := by
      apply UInt8.toNat_inj.1
      rw [hx]
      rcases h4 with ⟨rfl, rfl⟩ | ⟨rfl, rfl⟩ | ⟨rfl, rfl⟩ <;> decide
    rw [hm, Nat.add_comm 1 s, List.take_succ_cons]
theorem gr_got {l : List UInt8} {at_ most : Int} (h : (gr l at_ most).2.2 = 0) : ∃ i k : Nat, at_ = (i : Int) ∧ (gr l at_ most).2.1 = ((i + k : Nat) : Int) ∧ i + k ≤ l.length ∧ rowL (gr l at_ most).1 = (l.drop i).take k ∧ ((gr l at_ most).1.length : Int) ≤ most := by
  obtain ⟨n, p, E, hg, ⟨h1, h2⟩ | ⟨h1, ⟨h2, h3⟩ | ⟨h2, h4, h3⟩ | ⟨h2, h4, h5, h3⟩ | ⟨h2, h4, j, hj, h5, h3⟩⟩⟩ := gr_cases l at_ most
  · rw [h2] at h; exact absurd h h1
  · rw [h3] at h; cases h
  · rw [h3] at h; cases h
  · rw [h3] at h; exact absurd h h5
  · subst h1
    obtain ⟨i, k, rfl, hp, hk, hik, hc⟩ := gc_got hg
    rw [h3]
    have hji : j = i + k := by omega
    subst hji
    have hl : ((l.drop (i + k)).take n).length = n := by simp; omega
    refine ⟨i, k + n, rfl, by push_cast; omega, by omega, ?_, by rw [hl]; exact h4⟩
    unfold rowL
    rw [hl, hc, List.take_add, List.drop_drop]

/-- A coin's bytes are got back, wherever they stand. -/
theorem coin_back (tx : List UInt8) (n h v : Nat) (b : Bool) (lk pre rest : List UInt8) (ht : tx.length = 32) (hn : n < 65536) (hh : h < 4294967296) (hm : mayB v lk.length = true) :
    gcT (pre ++ coinB tx n h v b lk ++ rest) (pre.length : Int) = ⟨tx, n, h, v, b, lk, (pre.length : Int) + ((coinB tx n h v b lk).length : Int), 0⟩ := by
  obtain ⟨hv, hl⟩ := mayB_true hm
  have hp2 : putL n 2 = low n 2 := putL_low (k := 2) (by omega) (by omega)
  have hp4 : putL h 4 = low h 4 := putL_low (k := 4) (by omega) (by omega)
  have hp8 : putL v 8 = low v 8 := putL_low (k := 8) (by omega) (by omega)
  have hp1 : ∀ b : Bool, putL (if b = true then 1 else 0) 1 = low (if b = true then 1 else 0) 1 := fun b => putL_low (k := 1) (by omega) (by split <;> omega)
  have hpt : ptL tx n h = tx ++ (low n 2 ++ low h 4) := by unfold ptL; rw [hp2, hp4]
  have hpl : (ptL tx n h).length = 38 := by rw [hpt]; simp [ht]
  have hcb : coinB tx n h v b lk = ptL tx n h ++ (low v 8 ++ (low (if b = true then 1 else 0) 1 ++ rowL lk)) := by unfold coinB; rw [if_pos hm, hp8, hp1]
  generalize hL : pre ++ coinB tx n h v b lk ++ rest = L
  have eL : L = pre ++ ptL tx n h ++ ((low v 8 ++ (low (if b = true then 1 else 0) 1 ++ rowL lk)) ++ rest) := by rw [← hL, hcb]; simp
  have eL8 : L = (pre ++ ptL tx n h) ++ low v 8 ++ (low (if b = true then 1 else 0) 1 ++ rowL lk ++ rest) := by rw [eL]; simp
  have eL1 : L = (pre ++ ptL tx n h ++ low v 8) ++ low (if b = true then 1 else 0) 1 ++ (rowL lk ++ rest) := by rw [eL]; simp
  have eLr : L = (pre ++ ptL tx n h ++ low v 8 ++ low (if b = true then 1 else 0) 1) ++ rowL lk ++ rest := by rw [eL]; simp
  have c38 : pre.length + 38 ≤ L.length := by rw [eL]; simp only [List.length_append, hpl]; omega
  have hE : gpE L pre.length = 0 := by unfold gpE; exact cutE_ok (m := 38) c38
  have hcut : cutL L (pre.length : Int) 38 = ptL tx n h := by
    have := cutL_ok (l := L) (i := pre.length) (m := 38) c38
    have h2 := piece_mid eL
    rw [hpl] at h2
    rw [show (38 : Int) = ((38 : Nat) : Int) from rfl, this, h2]
  have hX : gpX L pre.length = tx := by
    unfold gpX; rw [if_pos hE, hcut, hpt, List.take_left' ht]
  have hN : gpN L pre.length = n := by
    unfold gpN
    rw [if_pos hE, hcut, hpt, ← List.append_assoc]
    have := getN_mid tx (low n 2) (low h 4) 32 2 ht.symm (by simp) (by decide)
    rw [show (32 : Int) = ((32 : Nat) : Int) from rfl, show (2 : Int) = ((2 : Nat) : Int) from rfl, this, num_low _ _ (by omega)]
  have hH : gpH L pre.length = h := by
    unfold gpH
    rw [if_pos hE, hcut, hpt]
    have := getN_mid (tx ++ low n 2) (low h 4) [] 34 4 (by simp [ht]) (by simp) (by decide)
    rw [List.append_nil, List.append_assoc] at this
    rw [show (34 : Int) = ((34 : Nat) : Int) from rfl, show (4 : Int) = ((4 : Nat) : Int) from rfl, this, num_low _ _ (by omega)]
  have hP : gpP L pre.length = ((pre.length + 38 : Nat) : Int) := by unfold gpP; rw [if_pos hE]; push_cast; rfl
  have l8 : (pre ++ ptL tx n h).length = pre.length + 38 := by simp [hpl]
  have l1 : (pre ++ ptL tx n h ++ low v 8).length = pre.length + 46 := by simp only [List.length_append, hpl, low_length]
  have lr : (pre ++ ptL tx n h ++ low v 8 ++ low (if b = true then 1 else 0) 1).length = pre.length + 47 := by simp only [List.length_append, hpl, low_length]
  have hV : gvT L ((pre.length + 38 : Nat) : Int) = (v, ((pre.length + 46 : Nat) : Int), 0) := by
    have a1 := getE_mid (pre ++ ptL tx n h) (low v 8) (low (if b = true then 1 else 0) 1 ++ rowL lk ++ rest) (pre.length + 38) 8 l8.symm (by simp) (by decide)
    have a2 := getN_mid (pre ++ ptL tx n h) (low v 8) (low (if b = true then 1 else 0) 1 ++ rowL lk ++ rest) (pre.length + 38) 8 l8.symm (by simp) (by decide)
    rw [← eL8] at a1 a2
    rw [num_low _ _ (by omega)] at a2
    unfold gvT
    rw [show (8 : Int) = ((8 : Nat) : Int) from rfl, a1, a2, if_neg (by simp), if_neg (by omega)]
    push_cast
    simp only [Prod.mk.injEq, true_and, and_true]
    omega
  have hB : gbT L ((pre.length + 46 : Nat) : Int) = (b, ((pre.length + 47 : Nat) : Int), 0) := by
    have a1 := getE_mid (pre ++ ptL tx n h ++ low v 8) (low (if b = true then 1 else 0) 1) (rowL lk ++ rest) (pre.length + 46) 1 l1.symm (by simp) (by decide)
    have a2 := getN_mid (pre ++ ptL tx n h ++ low v 8) (low (if b = true then 1 else 0) 1) (rowL lk ++ rest) (pre.length + 46) 1 l1.symm (by simp) (by decide)
    rw [← eL1] at a1 a2
    rw [num_low _ _ (by split <;> omega)] at a2
    unfold gbT
    rw [show (1 : Int) = ((1 : Nat) : Int) from rfl, a1, a2, if_neg (by simp), if_neg (by split <;> omega)]
    push_cast
    simp only [Prod.mk.injEq, and_true]
    cases b <;> rfl
  have hR : gr L ((pre.length + 47 : Nat) : Int) 100 = (lk, ((pre.length + 47 : Nat) : Int) + ((rowL lk).length : Int), 0) := by
    have := gr_mid (pre ++ ptL tx n h ++ low v 8 ++ low (if b = true then 1 else 0) 1) lk rest 100 (by omega) (by omega)
    rw [← eLr, lr] at this
    exact this
  have hlen : ((coinB tx n h v b lk).length : Int) = 47 + ((rowL lk).length : Int) := by rw [hcb]; simp [hpl]; omega
  unfold gcT
  rw [hE, hP, hV]
  dsimp only
  rw [hB]
  dsimp only
  rw [hR]
  dsimp only
  rw [hX, hN, hH, if_neg (by simp), if_neg (by simp), if_neg (by simp), if_neg (by simp), hlen]
  simp only [GC.mk.injEq, true_and, and_true]
  push_cast
  omega

theorem coinB_length_eq {tx : List UInt8} {n h v : Nat} {b : Bool} {lk : List UInt8} (hm : mayB v lk.length = true) : outE v lk = 0 := by unfold outE; rw [if_pos hm]

/-- What is got is put as the same bytes. -/
theorem coin_got {l : List UInt8} (h : (gcT l 0).e = 0) : mayB (gcT l 0).v (gcT l 0).lk.length = true ∧ (gcT l 0).x.length = 32 ∧ (gcT l 0).n < 65536 ∧ (gcT l 0).h < 4294967296 ∧
    ∃ k : Nat, (gcT l 0).p = (k : Int) ∧ k ≤ l.length ∧ coinB (gcT l 0).x (gcT l 0).n (gcT l 0).h (gcT l 0).v (gcT l 0).b (gcT l 0).lk = l.take k := by
  by_cases hE0 : gpE l 0 ≠ 0
  · rw [gcT, if_pos hE0] at h; exact absurd h hE0
  have hE : gpE l 0 = 0 := by simpa using hE0
  obtain ⟨hc1, -, hc2⟩ := cut38 hE
  have c38 : 0 + 38 ≤ l.length := by omega
  have hcut : cutL l 0 38 = l.take 38 := by
    have := cutL_ok (l := l) (i := 0) (m := 38) c38
    simpa using this
  have hP : gpP l 0 = ((38 : Nat) : Int) := by unfold gpP; rw [if_pos hE]; rfl
  have hX : gpX l 0 = l.take 32 := by unfold gpX; rw [if_pos hE, hcut, List.take_take]; rfl
  have hN : gpN l 0 = num ((l.drop 32).take 2) := by
    unfold gpN
    rw [if_pos hE, hcut]
    have := (get_at (l := l.take 38) (i := 32) (m := 2) (by omega) (by simp; omega)).2
    rw [show (32 : Int) = ((32 : Nat) : Int) from rfl, show (2 : Int) = ((2 : Nat) : Int) from rfl, this, List.drop_take, List.take_take]
    rfl
  have hH : gpH l 0 = num ((l.drop 34).take 4) := by
    unfold gpH
    rw [if_pos hE, hcut]
    have := (get_at (l := l.take 38) (i := 34) (m := 4) (by omega) (by simp; omega)).2
    rw [show (34 : Int) = ((34 : Nat) : Int) from rfl, show (4 : Int) = ((4 : Nat) : Int) from rfl, this, List.drop_take, List.take_take]
    rfl
  rcases gv_cases l ((38 : Nat) : Int) with ⟨h1, h2⟩ | ⟨h1, ⟨h3, h2⟩ | ⟨h3, h2⟩⟩
  · rw [gcT, if_neg (by simpa using hE), hP, h2, if_pos (by simpa using h1)] at h
    exact absurd h h1
  · rw [gcT, if_neg (by simpa using hE), hP, h2, if_pos (by simp)] at h
    cases h
  have c46 := (getE_ok h1).2.1
  have hV : getN l ((38 : Nat) : Int) 8 = num ((l.drop 38).take 8) := (get_at (l := l) (i := 38) (m := 8) (by omega) (by omega)).2
  have h2' : gvT l ((38 : Nat) : Int) = (num ((l.drop 38).take 8), ((46 : Nat) : Int), 0) := by rw [h2, hV]; rfl
  rw [hV] at h3
  rcases gb_cases l ((46 : Nat) : Int) with ⟨h4, h5⟩ | ⟨h4, ⟨h6, h5⟩ | ⟨h6, h5⟩⟩
  · rw [gcT, if_neg (by simpa using hE), hP, h2', if_neg (by simp)] at h
    dsimp only at h
    rw [h5, if_pos (by simpa using h4)] at h
    exact absurd h h4
  · rw [gcT, if_neg (by simpa using hE), hP, h2', if_neg (by simp)] at h
    dsimp only at h
    rw [h5, if_pos (by simp)] at h
    cases h
  have c47 := (getE_ok h4).2.1
  have hB : getN l ((46 : Nat) : Int) 1 = num ((l.drop 46).take 1) := (get_at (l := l) (i := 46) (m := 1) (by omega) (by omega)).2
  have h5' : gbT l ((46 : Nat) : Int) = (num ((l.drop 46).take 1) == 1, ((47 : Nat) : Int), 0) := by rw [h5, hB]; rfl
  rw [hB] at h6
  by_cases hR : (gr l ((47 : Nat) : Int) 100).2.2 ≠ 0
  · rw [gcT, if_neg (by simpa using hE), hP, h2', if_neg (by simp)] at h
    dsimp only at h
    rw [h5', if_neg (by simp)] at h
    dsimp only at h
    rw [if_pos hR] at h
    exact absurd h hR
  replace hR : (gr l ((47 : Nat) : Int) 100).2.2 = 0 := by simpa using hR
  obtain ⟨i, k, hi, hp, hik, hrow, hmost⟩ := gr_got hR
  obtain rfl : i = 47 := by omega
  have hG : gcT l 0 = ⟨l.take 32, num ((l.drop 32).take 2), num ((l.drop 34).take 4), num ((l.drop 38).take 8), num ((l.drop 46).take 1) == 1, (gr l ((47 : Nat) : Int) 100).1, ((47 + k : Nat) : Int), 0⟩ := by
    rw [gcT, if_neg (by simpa using hE), hP, h2', if_neg (by simp)]
    dsimp only
    rw [h5', if_neg (by simp)]
    dsimp only
    rw [if_neg (by simpa using hR), hX, hN, hH, hp]
  rw [hG]
  dsimp only
  have p2 := num_lt ((l.drop 32).take 2)
  have p4 := num_lt ((l.drop 34).take 4)
  have e2 : ((l.drop 32).take 2).length = 2 := by simp; omega
  have e4 : ((l.drop 34).take 4).length = 4 := by simp; omega
  have e8 : ((l.drop 38).take 8).length = 8 := by simp; omega
  have e1 : ((l.drop 46).take 1).length = 1 := by simp; omega
  rw [e2] at p2
  rw [e4] at p4
  have hm : mayB (num ((l.drop 38).take 8)) (gr l ((47 : Nat) : Int) 100).1.length = true := by
    unfold mayB
    rw [Bool.and_eq_true, decide_eq_true_iff, decide_eq_true_iff]
    exact ⟨by omega, by omega⟩
  refine ⟨hm, by simp; omega, by omega, by omega, 47 + k, rfl, hik, ?_⟩
  have q2 := low_num ((l.drop 32).take 2)
  have q4 := low_num ((l.drop 34).take 4)
  have q8 := low_num ((l.drop 38).take 8)
  have q1 := low_num ((l.drop 46).take 1)
  rw [e2] at q2
  rw [e4] at q4
  rw [e8] at q8
  rw [e1] at q1
  have hp2 : putL (num ((l.drop 32).take 2)) 2 = (l.drop 32).take 2 := (putL_low (k := 2) (by omega) (by omega)).trans q2
  have hp4 : putL (num ((l.drop 34).take 4)) 4 = (l.drop 34).take 4 := (putL_low (k := 4) (by omega) (by omega)).trans q4
  have hp8 : putL (num ((l.drop 38).take 8)) 8 = (l.drop 38).take 8 := (putL_low (k := 8) (by omega) (by omega)).trans q8
  have hb1 : (if (num ((l.drop 46).take 1) == 1) = true then 1 else 0) = num ((l.drop 46).take 1) := by
    split <;> rename_i hq
    · exact (by simpa using hq : num ((l.drop 46).take 1) = 1).symm
    · have : num ((l.drop 46).take 1) ≠ 1 := by simpa using hq
      omega
  have hp1 : putL (num ((l.drop 46).take 1)) 1 = (l.drop 46).take 1 := (putL_low (k := 1) (by omega) (by omega)).trans q1
  unfold coinB ptL
  rw [if_pos hm, hb1, hp2, hp4, hp8, hp1, hrow, show 47 + k = 32 + (2 + (4 + (8 + (1 + k)))) by omega, List.take_add, List.take_add (i := 2), List.take_add (i := 4), List.take_add (i := 8), List.take_add (i := 1)]
  simp only [List.drop_drop, List.append_assoc]
end Go.Proofs.YtejeekbpeinioaaGreatDoor
end
