/- THE DOCUMENT'S LAYER 6: PutPoint, Put. -/
import Derived.Test.YtniaiglfgknfiaaCoinR6
namespace Go.Proofs.Ytniaiglfgknfiaa
open Go Go.RowKit
set_option linter.unusedVariables false
set_option linter.unusedSimpArgs false
set_option linter.unusedVariables false
set_option linter.unusedSimpArgs false

set_option maxRecDepth 100000 in
set_option maxHeartbeats 4000000 in
theorem rputPoint_any (tx : List UInt8) (n h : Nat) (ht : tx.length = 32) (hn : n < 65536) (hh : h < 4294967296) (w : World) :
    Calls Try.prog 15 #[.agg (pcel tx n h)] w fun e w' => ∃ r, e = .returned r ∧ Own w.heap.size w' r (ptL tx n h) ∧ Nx w w' := by
  have HLT := Lib.hid ht
  have HCT := Lib.hid (pcel_tx tx n h)
  have HCN := Lib.hid (pcel_n tx n h ht)
  have HCH := Lib.hid (pcel_h tx n h ht)
  have HC1 := Lib.hid (fun w => conv16 n hn w)
  have HC2 := Lib.hid (fun w => conv32 h hh w)
  have HN1 := Lib.hid (fun w => rlow_any n 2 w (by omega))
  have HN2 := Lib.hid (fun w => rlow_any h 4 w (by omega))
  have HL1 := Lib.hid (putL_short n 2)
  have HL2 := Lib.hid (putL_short h 4)
  have R0 := Row.new w (pcel tx n h) 27 _ rfl
  have NW := Lib.hid ((Nx.refl w).alloc (.cells (pcel tx n h) 27))
  have HS0 : Hid ((w.alloc (.cells (pcel tx n h) 27)).heap.size = w.heap.size + 1) := Lib.hid (by simp)
  unfold ptL
  generalize putL n 2 = B1 at *
  generalize putL h 4 = B2 at *
  have HT2 : Hid (tx.length < 100) := Lib.hid (by omega)
  clear ht hn hh
  go_enter Try.func15, Try.ntmps15
  go_wp2_with fail
  generalize w.alloc (.cells (pcel tx n h) 27) = W at *
  have HGB : Hid (w.heap.size < W.heap.size) := Lib.hid (by have := HS0.out; omega)
  go_loopw [3, 4] (fun u i wr => ∃ (j : Nat) (uu : Value), j ≤ 32 ∧ i = .int .i64 j ∧ uu = u ∧ Own W.heap.size wr uu (tx.take j) ∧ Nx W wr) (fun _ i _ => 32 - (intOf i).toNat)
  case atStart => exact ⟨0, _, by omega, rfl, rfl, by simpa using Own.nil _ _, Nx.refl _⟩
  case round =>
    obtain ⟨j, u, hj, rfl, rfl, hown, hb⟩ := hrel
    by_cases hlt : j < 32
    · have hcell : wr.cell? ⟨w.heap.size, j, none⟩ = some (bv (tx[j]'(by have := HLT.out; omega))) := (R0.nx hb).cell (HCT.out j (by have := HLT.out; omega))
      have hlt' : (j : Int) < 32 := by omega
      generalize htj : tx[j]'(by have := HLT.out; omega) = tj at *
      have HTJ := Lib.hid htj
      clear htj
      have hcell' : wr.cell? ⟨w.heap.size, j, none⟩ = some (.int .u8 (tj.toNat : Int)) := hcell
      have HSR := Lib.hid hb.size
      go_wp2_with (at_builtin; refine wpList_app rfl (.tmp 9) (.tmp 14) _ rfl Try.underlying29 info_u8p W.heap.size _ (.slice (some ⟨wr.heap.size, 0, none⟩) 1 1) _ [tj] rfl rfl (hown.alloc _) (Rd.one _ _ _ _ rfl) ?c2 ?c3 ?_)
      case c2 => simp; omega
      case c3 => have := HSR.out; simp; omega
      intro v' w' hown' hb' _
      go_wp2
      go_roundw
      case rel =>
        refine ⟨j + 1, _, by omega, by go_num, rfl, ?_, (hb.alloc _).app hb'⟩
        rw [List.take_add_one, List.getElem?_eq_getElem (by have := HLT.out; omega), HTJ.out]
        exact hown'
      case measure => simp [intOf]; omega
    · obtain rfl : j = 32 := by omega
      have OU := Lib.hid hown
      have HN := Lib.hid hb
      have HSW : Hid (W.heap.size ≤ wr.heap.size) := Lib.hid hb.size
      have K0 := R0.nx hb
      rw [List.take_of_length_le (by have := HLT.out; omega)] at OU
      clear hown hb R0 hlt hj
      go_wp2_with fail
      refine wp_region_sep (W.heap.size) 11 [[], [], [1], [2], [3], [0, 4, 4], [], [6], [7], [8, 5], [5, 9, 9], [10, 10, 0, 1, 2, 3, 4, 5, 6, 7, 8, 9, 10]] [some 16, some 17, some 18, some 19, some 20, some 21, some 22, some 23, some 24, some 25, some 26] [3, 0, 0, 0, 2, 2, 0, 0, 0, 2, 2] [some 5, none, none, none, none, some 10, none, none, none, none, none, none] [none, none, none, none, none, some 0, none, none, none, none, some 5]
        [{ V := u, l := tx }, { V := .pointer (some ⟨w.heap.size, 32, none⟩) }, { V := .int .u16 (n : Int) }, { V := .int .u64 (n : Int) }, { l := B1 }, { l := tx ++ B1 }, { V := .pointer (some ⟨w.heap.size, 33, none⟩) }, { V := .int .u32 (h : Int) }, { V := .int .u64 (h : Int) }, { l := B2 }, { l := (tx ++ B1) ++ B2 }]
        HSW.out (by kernel_rfl) (by kernel_rfl) (hord_of (by decide)) (by kernel_rfl) (by decide) (by decide) (htail_of (by decide)) (stat4 (needs := [[], [], [1], [2], [3], [0, 4, 4], [], [6], [7], [8, 5], [5, 9, 9], [10, 10, 0, 1, 2, 3, 4, 5, 6, 7, 8, 9, 10]]) (cons := [some 5, none, none, none, none, some 10, none, none, none, none, none, none]) (src := [none, none, none, none, none, some 0, none, none, none, none, some 5]) (by decide)) (statS (by decide)) ?_ ?_ ?_ ?_ _ (by rfl) ?_
      · intro j hj h1 v w w' _ _
        have : j = 0 ∨ j = 1 ∨ j = 2 ∨ j = 3 ∨ j = 4 ∨ j = 5 ∨ j = 6 ∨ j = 7 ∨ j = 8 ∨ j = 9 ∨ j = 10 := by omega
        rcases this with rfl | rfl | rfl | rfl | rfl | rfl | rfl | rfl | rfl | rfl | rfl <;> exact trivial
      · intro j hj h1
        have : j = 0 ∨ j = 1 ∨ j = 2 ∨ j = 3 ∨ j = 4 ∨ j = 5 ∨ j = 6 ∨ j = 7 ∨ j = 8 ∨ j = 9 ∨ j = 10 := by omega
        rcases this with rfl | rfl | rfl | rfl | rfl | rfl | rfl | rfl | rfl | rfl | rfl
        · exact OU.out
        · cases h1
        · cases h1
        · cases h1
        · cases h1
        · cases h1
        · cases h1
        · cases h1
        · cases h1
        · cases h1
        · cases h1
      · intro i j hi hj hij h1 h2
        have h3 : i = 0 ∨ i = 1 ∨ i = 2 ∨ i = 3 ∨ i = 4 ∨ i = 5 ∨ i = 6 ∨ i = 7 ∨ i = 8 ∨ i = 9 ∨ i = 10 := by omega
        have h4 : j = 0 ∨ j = 1 ∨ j = 2 ∨ j = 3 ∨ j = 4 ∨ j = 5 ∨ j = 6 ∨ j = 7 ∨ j = 8 ∨ j = 9 ∨ j = 10 := by omega
        rcases h3 with rfl | rfl | rfl | rfl | rfl | rfl | rfl | rfl | rfl | rfl | rfl <;> first | (cases h1; done) | (rcases h4 with rfl | rfl | rfl | rfl | rfl | rfl | rfl | rfl | rfl | rfl | rfl <;> first | (cases h2; done) | exact absurd rfl hij)
      · intro x tm wr htm hbl hB i hi hd K hK
        simp only [fillA, List.setIfInBounds_toArray, List.set_cons_zero, List.set_cons_succ] at htm
        subst htm
        have hcs : i = 0 ∨ i = 1 ∨ i = 2 ∨ i = 3 ∨ i = 4 ∨ i = 5 ∨ i = 6 ∨ i = 7 ∨ i = 8 ∨ i = 9 ∨ i = 10 := by omega
        clear hi
        rcases hcs with rfl | rfl | rfl | rfl | rfl | rfl | rfl | rfl | rfl | rfl | rfl
        · exact wpOp_of rfl rfl (wp_val_of (some 16) rfl (u) (by kernel_rfl) (hK _ _ ⟨rfl, Nx.refl _⟩))
        · exact wpOp_of rfl rfl (wp_val_of (some 17) rfl (.pointer (some ⟨w.heap.size, 32, none⟩)) (by kernel_rfl) (hK _ _ ⟨rfl, Nx.refl _⟩))
        · have e1 : x 1 = .pointer (some ⟨w.heap.size, 32, none⟩) := hd 1 (by decide)
          generalize x 1 = y1 at e1 hK ⊢
          subst e1
          exact wpOp_of rfl rfl (wp_load_cell (some 18) rfl 24 (.tmp 17) rfl (w.heap.size) 32 rfl (.int .u16 (n : Int)) _ ((Row.blw K0 hbl HGB.out).cell HCN.out) Try.underlying24 rfl (hK _ _ ⟨rfl, Nx.refl _⟩))
        · have e2 : x 2 = .int .u16 (n : Int) := hd 2 (by decide)
          generalize x 2 = y2 at e2 hK ⊢
          subst e2
          exact wpOp_of rfl rfl (wp_conv_of (some 19) rfl 24 28 (.tmp 18) rfl (.int .u64 (n : Int)) (HC1.out wr) (hK _ _ ⟨rfl, Nx.refl _⟩))
        · have e3 : x 3 = .int .u64 (n : Int) := hd 3 (by decide)
          generalize x 3 = y3 at e3 hK ⊢
          subst e3
          exact wpOp_of rfl rfl (wp_callp_of (some 20) rfl 37 #[(.int .u64 (n : Int)), .int .i64 2] (by kernel_rfl) (fun v w' => Own wr.heap.size w' v (B1)) (HN1.out wr) (fun v w' h1 h2 => hK v w' ⟨h1, h2⟩))
        · have p0 := hd 0 (by decide)
          have e0 : x 0 = u := p0.1
          have o0 : Own (W.heap.size) wr (x 0) (tx) := p0.2 (by decide)
          have o4 : Own (W.heap.size) wr (x 4) (B1) := hd 4 (by decide) (by decide)
          exact wpOp_of rfl rfl (wp_app_of (some 21) rfl (.tmp 16) (.tmp 20) 29 rfl Try.underlying29 info_u8p (W.heap.size) (x 0) (x 4) (tx) (B1) rfl rfl o0 (o4.rd) (by have := HLT.out; have := HL1.out; omega) hB (fun v' w' h1 h2 h3 => hK v' w' ⟨h1, h2, h3⟩))
        · exact wpOp_of rfl rfl (wp_val_of (some 22) rfl (.pointer (some ⟨w.heap.size, 33, none⟩)) (by kernel_rfl) (hK _ _ ⟨rfl, Nx.refl _⟩))
        · have e6 : x 6 = .pointer (some ⟨w.heap.size, 33, none⟩) := hd 6 (by decide)
          generalize x 6 = y6 at e6 hK ⊢
          subst e6
          exact wpOp_of rfl rfl (wp_load_cell (some 23) rfl 25 (.tmp 22) rfl (w.heap.size) 33 rfl (.int .u32 (h : Int)) _ ((Row.blw K0 hbl HGB.out).cell HCH.out) Try.underlying25 rfl (hK _ _ ⟨rfl, Nx.refl _⟩))
        · have e7 : x 7 = .int .u32 (h : Int) := hd 7 (by decide)
          generalize x 7 = y7 at e7 hK ⊢
          subst e7
          exact wpOp_of rfl rfl (wp_conv_of (some 24) rfl 25 28 (.tmp 23) rfl (.int .u64 (h : Int)) (HC2.out wr) (hK _ _ ⟨rfl, Nx.refl _⟩))
        · have e8 : x 8 = .int .u64 (h : Int) := hd 8 (by decide)
          generalize x 8 = y8 at e8 hK ⊢
          subst e8
          exact wpOp_of rfl rfl (wp_callp_of (some 25) rfl 37 #[(.int .u64 (h : Int)), .int .i64 4] (by kernel_rfl) (fun v w' => Own wr.heap.size w' v (B2)) (HN2.out wr) (fun v w' h1 h2 => hK v w' ⟨h1, h2⟩))
        · have o5 : Own (W.heap.size) wr (x 5) (tx ++ B1) := hd 5 (by decide) (by decide)
          have o9 : Own (W.heap.size) wr (x 9) (B2) := hd 9 (by decide) (by decide)
          exact wpOp_of rfl rfl (wp_app_of (some 26) rfl (.tmp 21) (.tmp 25) 29 rfl Try.underlying29 info_u8p (W.heap.size) (x 5) (x 9) ((tx ++ B1)) (B2) rfl rfl o5 (o9.rd) (by have := HLT.out; have := HL1.out; have := HL2.out; rw [List.length_append]; omega) hB (fun v' w' h1 h2 h3 => hK v' w' ⟨h1, h2, h3⟩))
      · intro x tm wr htm hbl hv
        simp only [fillA, List.setIfInBounds_toArray, List.set_cons_zero, List.set_cons_succ] at htm
        subst htm
        have o10 := Lib.hid ((hv 10 (by decide) (by decide)).mono (Nat.le_of_lt HGB.out))
        have NF := Lib.hid (NW.out.trans (HN.out.app hbl))
        generalize x 10 = y at *
        clear hv hbl K0
        go_wp2_with fail
        go_ret
        exact ⟨_, rfl, by simpa using o10.out, NF.out⟩

set_option maxRecDepth 100000 in
set_option maxHeartbeats 8000000 in
theorem rput_coin_any (tx : List UInt8) (n h v : Nat) (b : Bool) (lk : Value) (l : List UInt8) (w : World) (ht : tx.length = 32) (hn : n < 65536) (hh : h < 4294967296) (hvv : (v : Int) ≤ 18446744073709551615) (hl : Rd w lk l) (hr : l.length ≤ 140737488351232) :
    Calls Try.prog 12 #[.agg (ccel tx n h v b lk)] w fun e w' => ∃ r, e = .returned (.tuple #[r, .int .i64 (outE v l)]) ∧ Own w.heap.size w' r (coinB tx n h v b l) ∧ Nx w w' := by
  have HM := Lib.hid (fun w hh => may_any tx n h v b lk l w ht hh (by omega))
  have RL0 := Lib.hid hl
  obtain ⟨A, c, rfl, -⟩ := hl
  unfold outE coinB
  have cz := Lib.hid (coinsz tx n h v b (.slice A l.length c) ht)
  have HC0 := Lib.hid (ccel_v tx n h v b (.slice A l.length c) ht)
  have HCB := Lib.hid (ccel_b tx n h v b (.slice A l.length c) ht)
  have HC3 := Lib.hid (ccel_l tx n h v b (.slice A l.length c) ht)
  have HCP := Lib.hid (ccel_p tx n h v b (.slice A l.length c))
  have HPS := Lib.hid (pointsz tx n h ht)
  have R0 := Row.new w (ccel tx n h v b (.slice A l.length c)) 31 _ rfl
  have NW := Lib.hid ((Nx.refl w).alloc (.cells (ccel tx n h v b (.slice A l.length c)) 31))
  have HN0 := Lib.hid (fun w => rputPoint_any tx n h ht hn hh w)
  have HL0 := Lib.hid (ptL_short tx n h ht)
  rcases hb : mayB v l.length with _ | _
  · rw [hb] at HM
    rw [if_neg (by simp), if_neg (by simp)]
    go_enter Try.func12, Try.ntmps12
    go_wp2_with (first | (refine wpList_load_row rfl 31 (.tmp 1) rfl w.heap.size rfl 31 (ccel tx n h v b (.slice A l.length c)) (0, 0) _ R0 Try.underlying31 rfl cz.out ?_))
    refine (HM.out _ (RL0.out.alloc _)).mono ?_
    rintro e w1 ⟨rfl, n1⟩
    have N1 := Lib.hid n1
    clear n1 R0
    go_wp2_with fail
    go_ret2
    exact ⟨_, rfl, Own.nil _ _, NW.out.trans N1.out⟩
  · obtain ⟨hv, hn2⟩ := mayB_true hb
    rw [hb] at HM
    rw [if_pos rfl, if_pos rfl]
    have HN1 := Lib.hid (fun w => rlow_any v 8 w hvv)
    have HRW := Lib.hid (fun w lv h => refRow_any lv l w h hr)
    have HL1 := Lib.hid (putL_short v 8)
    have HL3 := Lib.hid (rowL_short l hn2)
    have HB2 : Hid (∀ x, putL (if x = true then 1 else 0) 1 = [if x = true then (1 : UInt8) else 0]) := Lib.hid (by intro x; cases x <;> decide)
    rw [HB2.out b]
    generalize ptL tx n h = B0 at *
    generalize putL v 8 = B1 at *
    generalize rowL l = B3 at *
    clear hv hn2 hr hb hn hh ht hvv
    go_enter Try.func12, Try.ntmps12
    go_wp2_with (first | (refine wpList_load_row rfl 31 (.tmp 1) rfl w.heap.size rfl 31 (ccel tx n h v b (.slice A l.length c)) (0, 0) _ R0 Try.underlying31 rfl cz.out ?_))
    refine (HM.out _ (RL0.out.alloc _)).mono ?_
    rintro e W ⟨rfl, n1⟩
    have N1 := Lib.hid (NW.out.trans n1)
    have K0 := R0.nx n1
    have RL := Lib.hid (RL0.out.nx N1.out)
    have HB := Lib.hid N1.out.size
    have kb := K0.cell HCB.out
    clear n1 R0 RL0 NW
    rcases b with _ | _
    · go_wp2_with fail
      refine wp_region_sep (W.heap.size) 7 [[], [0], [1], [], [3], [4, 2], [2, 5, 5], [6, 6, 0, 1, 2, 3, 4, 5, 6]] [some 11, some 12, some 13, some 14, some 15, some 16, some 17] [0, 0, 2, 0, 0, 2, 2] [none, none, some 6, none, none, none, none, none] [none, none, none, none, none, none, some 2]
        [{ V := .pointer (some ⟨w.heap.size, 0, none⟩) }, { V := .agg (pcel tx n h) }, { l := B0 }, { V := .pointer (some ⟨w.heap.size, 34, none⟩) }, { V := .int .u64 (v : Int) }, { l := B1 }, { l := B0 ++ B1 }]
        (Nat.le_refl _) (by kernel_rfl) (by kernel_rfl) (hord_of (by decide)) (by kernel_rfl) (by decide) (by decide) (htail_of (by decide)) (stat4 (needs := [[], [0], [1], [], [3], [4, 2], [2, 5, 5], [6, 6, 0, 1, 2, 3, 4, 5, 6]]) (cons := [none, none, some 6, none, none, none, none, none]) (src := [none, none, none, none, none, none, some 2]) (by decide)) (statS (by decide)) ?_ ?_ ?_ ?_ _ (by rfl) ?_
      · intro j hj h1 v w w' _ _
        have : j = 0 ∨ j = 1 ∨ j = 2 ∨ j = 3 ∨ j = 4 ∨ j = 5 ∨ j = 6 := by omega
        rcases this with rfl | rfl | rfl | rfl | rfl | rfl | rfl <;> exact trivial
      · intro j hj h1
        have : j = 0 ∨ j = 1 ∨ j = 2 ∨ j = 3 ∨ j = 4 ∨ j = 5 ∨ j = 6 := by omega
        rcases this with rfl | rfl | rfl | rfl | rfl | rfl | rfl <;> cases h1
      · intro i j hi _ _ h1
        have : i = 0 ∨ i = 1 ∨ i = 2 ∨ i = 3 ∨ i = 4 ∨ i = 5 ∨ i = 6 := by omega
        rcases this with rfl | rfl | rfl | rfl | rfl | rfl | rfl <;> cases h1
      · intro x tm wr htm hbl hB i hi hd K hK
        simp only [fillA, List.setIfInBounds_toArray, List.set_cons_zero, List.set_cons_succ] at htm
        subst htm
        have hcs : i = 0 ∨ i = 1 ∨ i = 2 ∨ i = 3 ∨ i = 4 ∨ i = 5 ∨ i = 6 := by omega
        clear hi
        rcases hcs with rfl | rfl | rfl | rfl | rfl | rfl | rfl
        · exact wpOp_of rfl rfl (wp_val_of (some 11) rfl (.pointer (some ⟨w.heap.size, 0, none⟩)) (by kernel_rfl) (hK _ _ ⟨rfl, Nx.refl _⟩))
        · have e0 : x 0 = .pointer (some ⟨w.heap.size, 0, none⟩) := hd 0 (by decide)
          generalize x 0 = y0 at e0 hK ⊢
          subst e0
          exact wpOp_of rfl rfl (wp_load_at (some 12) rfl 27 (.tmp 11) rfl (w.heap.size) 0 rfl (pcel tx n h) _ (fun j v hv => by rw [Nat.zero_add]; exact (Row.blw K0 hbl K0.lt).cell (HCP.out j v hv)) Try.underlying27 rfl HPS.out (hK _ _ ⟨rfl, Nx.refl _⟩))
        · have e1 : x 1 = .agg (pcel tx n h) := hd 1 (by decide)
          generalize x 1 = y1 at e1 hK ⊢
          subst e1
          exact wpOp_of rfl rfl (wp_callp_of (some 13) rfl 15 #[(.agg (pcel tx n h))] (by kernel_rfl) (fun v w' => Own wr.heap.size w' v (B0)) (HN0.out wr) (fun v w' h1 h2 => hK v w' ⟨h1, h2⟩))
        · exact wpOp_of rfl rfl (wp_val_of (some 14) rfl (.pointer (some ⟨w.heap.size, 34, none⟩)) (by kernel_rfl) (hK _ _ ⟨rfl, Nx.refl _⟩))
        · have e3 : x 3 = .pointer (some ⟨w.heap.size, 34, none⟩) := hd 3 (by decide)
          generalize x 3 = y3 at e3 hK ⊢
          subst e3
          exact wpOp_of rfl rfl (wp_load_cell (some 15) rfl 28 (.tmp 14) rfl (w.heap.size) 34 rfl (.int .u64 (v : Int)) _ ((Row.blw K0 hbl K0.lt).cell HC0.out) Try.underlying28 rfl (hK _ _ ⟨rfl, Nx.refl _⟩))
        · have e4 : x 4 = .int .u64 (v : Int) := hd 4 (by decide)
          generalize x 4 = y4 at e4 hK ⊢
          subst e4
          exact wpOp_of rfl rfl (wp_callp_of (some 16) rfl 37 #[(.int .u64 (v : Int)), .int .i64 8] (by kernel_rfl) (fun v w' => Own wr.heap.size w' v (B1)) (HN1.out wr) (fun v w' h1 h2 => hK v w' ⟨h1, h2⟩))
        · have o2 : Own (W.heap.size) wr (x 2) (B0) := hd 2 (by decide) (by decide)
          have o5 : Own (W.heap.size) wr (x 5) (B1) := hd 5 (by decide) (by decide)
          exact wpOp_of rfl rfl (wp_app_of (some 17) rfl (.tmp 13) (.tmp 16) 29 rfl Try.underlying29 info_u8p (W.heap.size) (x 2) (x 5) (B0) (B1) rfl rfl o2 (o5.rd) (by have := HL0.out; have := HL1.out; omega) hB (fun v' w' h1 h2 h3 => hK v' w' ⟨h1, h2, h3⟩))
      · intro x tm wr htm hbl hv
        simp only [fillA, List.setIfInBounds_toArray, List.set_cons_zero, List.set_cons_succ] at htm
        subst htm
        have OY := Lib.hid (hv 6 (by decide) (by decide))
        have HNW := Lib.hid (show Nx W wr from hbl)
        have HSY := Lib.hid hbl.size
        have K1 := Row.blw K0 hbl K0.lt
        have HGB := Lib.hid K0.lt
        generalize x 6 = y at *
        have kb1 := K1.cell HCB.out
        clear hv hbl K0 kb
        go_wp2_with fail
        have K0 := K1
        clear K1 kb1
        refine wp_region_sep (W.heap.size) 8 [[], [], [1], [0, 2], [], [4], [5, 3], [3, 6, 6], [7, 7, 0, 1, 2, 3, 4, 5, 6, 7], [8, 0, 1, 2, 3, 4, 5, 6, 7, 8]] [some 18, some 19, some 20, some 21, some 22, some 23, some 24, some 25] [3, 0, 2, 2, 0, 0, 2, 2] [some 3, none, none, some 7, none, none, none, none, none, none] [none, none, none, some 0, none, none, none, some 3]
          [{ V := y, l := B0 ++ B1 }, { V := .int .u8 0 }, { l := [0] }, { l := (B0 ++ B1) ++ [0] }, { V := .pointer (some ⟨w.heap.size, 36, none⟩) }, { V := .slice A l.length c }, { l := B3 }, { l := (B0 ++ B1 ++ [0]) ++ B3 }]
          HSY.out (by kernel_rfl) (by kernel_rfl) (hord_of (by decide)) (by kernel_rfl) (by decide) (by decide) (htail_of (by decide)) (stat4 (needs := [[], [], [1], [0, 2], [], [4], [5, 3], [3, 6, 6], [7, 7, 0, 1, 2, 3, 4, 5, 6, 7], [8, 0, 1, 2, 3, 4, 5, 6, 7, 8]]) (cons := [some 3, none, none, some 7, none, none, none, none, none, none]) (src := [none, none, none, some 0, none, none, none, some 3]) (by decide)) (statS (by decide)) ?_ ?_ ?_ ?_ _ (by rfl) ?_
        · intro j hj h1 v w w' _ _
          have : j = 0 ∨ j = 1 ∨ j = 2 ∨ j = 3 ∨ j = 4 ∨ j = 5 ∨ j = 6 ∨ j = 7 := by omega
          rcases this with rfl | rfl | rfl | rfl | rfl | rfl | rfl | rfl <;> exact trivial
        · intro j hj h1
          have : j = 0 ∨ j = 1 ∨ j = 2 ∨ j = 3 ∨ j = 4 ∨ j = 5 ∨ j = 6 ∨ j = 7 := by omega
          rcases this with rfl | rfl | rfl | rfl | rfl | rfl | rfl | rfl
          · exact OY.out
          · cases h1
          · cases h1
          · cases h1
          · cases h1
          · cases h1
          · cases h1
          · cases h1
        · intro i j hi hj hij h1 h2
          have h3 : i = 0 ∨ i = 1 ∨ i = 2 ∨ i = 3 ∨ i = 4 ∨ i = 5 ∨ i = 6 ∨ i = 7 := by omega
          have h4 : j = 0 ∨ j = 1 ∨ j = 2 ∨ j = 3 ∨ j = 4 ∨ j = 5 ∨ j = 6 ∨ j = 7 := by omega
          rcases h3 with rfl | rfl | rfl | rfl | rfl | rfl | rfl | rfl <;> first | (cases h1; done) | (rcases h4 with rfl | rfl | rfl | rfl | rfl | rfl | rfl | rfl <;> first | (cases h2; done) | exact absurd rfl hij)
        · intro x tm wr htm hbl hB i hi hd K hK
          simp only [fillA, List.setIfInBounds_toArray, List.set_cons_zero, List.set_cons_succ] at htm
          subst htm
          have hcs : i = 0 ∨ i = 1 ∨ i = 2 ∨ i = 3 ∨ i = 4 ∨ i = 5 ∨ i = 6 ∨ i = 7 := by omega
          clear hi
          rcases hcs with rfl | rfl | rfl | rfl | rfl | rfl | rfl | rfl
          · exact wpOp_of rfl rfl (wp_val_of (some 18) rfl (y) (by kernel_rfl) (hK _ _ ⟨rfl, Nx.refl _⟩))
          · exact wpOp_of rfl rfl (wp_val_of (some 19) rfl (.int .u8 0) (by kernel_rfl) (hK _ _ ⟨rfl, Nx.refl _⟩))
          · have e1 : x 1 = .int .u8 0 := hd 1 (by decide)
            generalize x 1 = y1 at e1 hK ⊢
            subst e1
            exact wpOp_of rfl rfl (wp_mk_of (some 20) rfl 29 1 _ rfl (#[(0, .int .u8 0)]) (by kernel_rfl) _ _ (run_mk1c 0 wr) (hK _ _ ⟨Own.one wr _ 0 rfl, (Nx.refl _).alloc _⟩))
          · have p0 := hd 0 (by decide)
            have e0 : x 0 = y := p0.1
            have o0 : Own (W.heap.size) wr (x 0) (B0 ++ B1) := p0.2 (by decide)
            have o2 : Own (W.heap.size) wr (x 2) [0] := hd 2 (by decide) (by decide)
            exact wpOp_of rfl rfl (wp_app_of (some 21) rfl (.tmp 18) (.tmp 20) 29 rfl Try.underlying29 info_u8p (W.heap.size) (x 0) (x 2) ((B0 ++ B1)) ([0]) rfl rfl o0 (o2.rd) (by have := HL0.out; have := HL1.out; rw [List.length_append, List.length_singleton]; omega) hB (fun v' w' h1 h2 h3 => hK v' w' ⟨h1, h2, h3⟩))
          · exact wpOp_of rfl rfl (wp_val_of (some 22) rfl (.pointer (some ⟨w.heap.size, 36, none⟩)) (by kernel_rfl) (hK _ _ ⟨rfl, Nx.refl _⟩))
          · have e4 : x 4 = .pointer (some ⟨w.heap.size, 36, none⟩) := hd 4 (by decide)
            generalize x 4 = y4 at e4 hK ⊢
            subst e4
            exact wpOp_of rfl rfl (wp_load_cell (some 23) rfl 29 (.tmp 22) rfl (w.heap.size) 36 rfl (.slice A l.length c) _ ((Row.blw K0 hbl HGB.out).cell HC3.out) Try.underlying29 rfl (hK _ _ ⟨rfl, Nx.refl _⟩))
          · have e5 : x 5 = .slice A l.length c := hd 5 (by decide)
            generalize x 5 = y5 at e5 hK ⊢
            subst e5
            exact wpOp_of rfl rfl (wp_callp_of (some 24) rfl 38 #[(.slice A l.length c)] (by kernel_rfl) (fun v w' => Own wr.heap.size w' v (B3)) (HRW.out wr _ (RL.out.nx (Nx.app HNW.out hbl))) (fun v w' h1 h2 => hK v w' ⟨h1, h2⟩))
          · have o3 : Own (W.heap.size) wr (x 3) ((B0 ++ B1) ++ [0]) := hd 3 (by decide) (by decide)
            have o6 : Own (W.heap.size) wr (x 6) (B3) := hd 6 (by decide) (by decide)
            exact wpOp_of rfl rfl (wp_app_of (some 25) rfl (.tmp 21) (.tmp 24) 29 rfl Try.underlying29 info_u8p (W.heap.size) (x 3) (x 6) ((B0 ++ B1 ++ [0])) (B3) rfl rfl o3 (o6.rd) (by have := HL0.out; have := HL1.out; have := HL3.out; rw [List.length_append, List.length_append, List.length_singleton]; omega) hB (fun v' w' h1 h2 h3 => hK v' w' ⟨h1, h2, h3⟩))
        · intro x tm wr htm hbl hv
          simp only [fillA, List.setIfInBounds_toArray, List.set_cons_zero, List.set_cons_succ] at htm
          subst htm
          have o7 := Lib.hid ((hv 7 (by decide) (by decide)).mono HB.out)
          have NF := Lib.hid (N1.out.trans (HNW.out.app hbl))
          generalize x 7 = z at *
          clear hv hbl K0
          go_wp2_with fail
          go_ret2
          exact ⟨_, rfl, by simpa [HB2.out] using o7.out, NF.out⟩
    · go_wp2_with fail
      refine wp_region_sep (W.heap.size) 7 [[], [0], [1], [], [3], [4, 2], [2, 5, 5], [6, 6, 0, 1, 2, 3, 4, 5, 6]] [some 11, some 12, some 13, some 14, some 15, some 16, some 17] [0, 0, 2, 0, 0, 2, 2] [none, none, some 6, none, none, none, none, none] [none, none, none, none, none, none, some 2]
        [{ V := .pointer (some ⟨w.heap.size, 0, none⟩) }, { V := .agg (pcel tx n h) }, { l := B0 }, { V := .pointer (some ⟨w.heap.size, 34, none⟩) }, { V := .int .u64 (v : Int) }, { l := B1 }, { l := B0 ++ B1 }]
        (Nat.le_refl _) (by kernel_rfl) (by kernel_rfl) (hord_of (by decide)) (by kernel_rfl) (by decide) (by decide) (htail_of (by decide)) (stat4 (needs := [[], [0], [1], [], [3], [4, 2], [2, 5, 5], [6, 6, 0, 1, 2, 3, 4, 5, 6]]) (cons := [none, none, some 6, none, none, none, none, none]) (src := [none, none, none, none, none, none, some 2]) (by decide)) (statS (by decide)) ?_ ?_ ?_ ?_ _ (by rfl) ?_
      · intro j hj h1 v w w' _ _
        have : j = 0 ∨ j = 1 ∨ j = 2 ∨ j = 3 ∨ j = 4 ∨ j = 5 ∨ j = 6 := by omega
        rcases this with rfl | rfl | rfl | rfl | rfl | rfl | rfl <;> exact trivial
      · intro j hj h1
        have : j = 0 ∨ j = 1 ∨ j = 2 ∨ j = 3 ∨ j = 4 ∨ j = 5 ∨ j = 6 := by omega
        rcases this with rfl | rfl | rfl | rfl | rfl | rfl | rfl <;> cases h1
      · intro i j hi _ _ h1
        have : i = 0 ∨ i = 1 ∨ i = 2 ∨ i = 3 ∨ i = 4 ∨ i = 5 ∨ i = 6 := by omega
        rcases this with rfl | rfl | rfl | rfl | rfl | rfl | rfl <;> cases h1
      · intro x tm wr htm hbl hB i hi hd K hK
        simp only [fillA, List.setIfInBounds_toArray, List.set_cons_zero, List.set_cons_succ] at htm
        subst htm
        have hcs : i = 0 ∨ i = 1 ∨ i = 2 ∨ i = 3 ∨ i = 4 ∨ i = 5 ∨ i = 6 := by omega
        clear hi
        rcases hcs with rfl | rfl | rfl | rfl | rfl | rfl | rfl
        · exact wpOp_of rfl rfl (wp_val_of (some 11) rfl (.pointer (some ⟨w.heap.size, 0, none⟩)) (by kernel_rfl) (hK _ _ ⟨rfl, Nx.refl _⟩))
        · have e0 : x 0 = .pointer (some ⟨w.heap.size, 0, none⟩) := hd 0 (by decide)
          generalize x 0 = y0 at e0 hK ⊢
          subst e0
          exact wpOp_of rfl rfl (wp_load_at (some 12) rfl 27 (.tmp 11) rfl (w.heap.size) 0 rfl (pcel tx n h) _ (fun j v hv => by rw [Nat.zero_add]; exact (Row.blw K0 hbl K0.lt).cell (HCP.out j v hv)) Try.underlying27 rfl HPS.out (hK _ _ ⟨rfl, Nx.refl _⟩))
        · have e1 : x 1 = .agg (pcel tx n h) := hd 1 (by decide)
          generalize x 1 = y1 at e1 hK ⊢
          subst e1
          exact wpOp_of rfl rfl (wp_callp_of (some 13) rfl 15 #[(.agg (pcel tx n h))] (by kernel_rfl) (fun v w' => Own wr.heap.size w' v (B0)) (HN0.out wr) (fun v w' h1 h2 => hK v w' ⟨h1, h2⟩))
        · exact wpOp_of rfl rfl (wp_val_of (some 14) rfl (.pointer (some ⟨w.heap.size, 34, none⟩)) (by kernel_rfl) (hK _ _ ⟨rfl, Nx.refl _⟩))
        · have e3 : x 3 = .pointer (some ⟨w.heap.size, 34, none⟩) := hd 3 (by decide)
          generalize x 3 = y3 at e3 hK ⊢
          subst e3
          exact wpOp_of rfl rfl (wp_load_cell (some 15) rfl 28 (.tmp 14) rfl (w.heap.size) 34 rfl (.int .u64 (v : Int)) _ ((Row.blw K0 hbl K0.lt).cell HC0.out) Try.underlying28 rfl (hK _ _ ⟨rfl, Nx.refl _⟩))
        · have e4 : x 4 = .int .u64 (v : Int) := hd 4 (by decide)
          generalize x 4 = y4 at e4 hK ⊢
          subst e4
          exact wpOp_of rfl rfl (wp_callp_of (some 16) rfl 37 #[(.int .u64 (v : Int)), .int .i64 8] (by kernel_rfl) (fun v w' => Own wr.heap.size w' v (B1)) (HN1.out wr) (fun v w' h1 h2 => hK v w' ⟨h1, h2⟩))
        · have o2 : Own (W.heap.size) wr (x 2) (B0) := hd 2 (by decide) (by decide)
          have o5 : Own (W.heap.size) wr (x 5) (B1) := hd 5 (by decide) (by decide)
          exact wpOp_of rfl rfl (wp_app_of (some 17) rfl (.tmp 13) (.tmp 16) 29 rfl Try.underlying29 info_u8p (W.heap.size) (x 2) (x 5) (B0) (B1) rfl rfl o2 (o5.rd) (by have := HL0.out; have := HL1.out; omega) hB (fun v' w' h1 h2 h3 => hK v' w' ⟨h1, h2, h3⟩))
      · intro x tm wr htm hbl hv
        simp only [fillA, List.setIfInBounds_toArray, List.set_cons_zero, List.set_cons_succ] at htm
        subst htm
        have OY := Lib.hid (hv 6 (by decide) (by decide))
        have HNW := Lib.hid (show Nx W wr from hbl)
        have HSY := Lib.hid hbl.size
        have K1 := Row.blw K0 hbl K0.lt
        have HGB := Lib.hid K0.lt
        generalize x 6 = y at *
        have kb1 := K1.cell HCB.out
        clear hv hbl K0 kb
        go_wp2_with fail
        have K0 := K1
        clear K1 kb1
        refine wp_region_sep (W.heap.size) 8 [[], [], [1], [0, 2], [], [4], [5, 3], [3, 6, 6], [7, 7, 0, 1, 2, 3, 4, 5, 6, 7], [8, 0, 1, 2, 3, 4, 5, 6, 7, 8]] [some 18, some 19, some 20, some 21, some 22, some 23, some 24, some 25] [3, 0, 2, 2, 0, 0, 2, 2] [some 3, none, none, some 7, none, none, none, none, none, none] [none, none, none, some 0, none, none, none, some 3]
          [{ V := y, l := B0 ++ B1 }, { V := .int .u8 1 }, { l := [1] }, { l := (B0 ++ B1) ++ [1] }, { V := .pointer (some ⟨w.heap.size, 36, none⟩) }, { V := .slice A l.length c }, { l := B3 }, { l := (B0 ++ B1 ++ [1]) ++ B3 }]
          HSY.out (by kernel_rfl) (by kernel_rfl) (hord_of (by decide)) (by kernel_rfl) (by decide) (by decide) (htail_of (by decide)) (stat4 (needs := [[], [], [1], [0, 2], [], [4], [5, 3], [3, 6, 6], [7, 7, 0, 1, 2, 3, 4, 5, 6, 7], [8, 0, 1, 2, 3, 4, 5, 6, 7, 8]]) (cons := [some 3, none, none, some 7, none, none, none, none, none, none]) (src := [none, none, none, some 0, none, none, none, some 3]) (by decide)) (statS (by decide)) ?_ ?_ ?_ ?_ _ (by rfl) ?_
        · intro j hj h1 v w w' _ _
          have : j = 0 ∨ j = 1 ∨ j = 2 ∨ j = 3 ∨ j = 4 ∨ j = 5 ∨ j = 6 ∨ j = 7 := by omega
          rcases this with rfl | rfl | rfl | rfl | rfl | rfl | rfl | rfl <;> exact trivial
        · intro j hj h1
          have : j = 0 ∨ j = 1 ∨ j = 2 ∨ j = 3 ∨ j = 4 ∨ j = 5 ∨ j = 6 ∨ j = 7 := by omega
          rcases this with rfl | rfl | rfl | rfl | rfl | rfl | rfl | rfl
          · exact OY.out
          · cases h1
          · cases h1
          · cases h1
          · cases h1
          · cases h1
          · cases h1
          · cases h1
        · intro i j hi hj hij h1 h2
          have h3 : i = 0 ∨ i = 1 ∨ i = 2 ∨ i = 3 ∨ i = 4 ∨ i = 5 ∨ i = 6 ∨ i = 7 := by omega
          have h4 : j = 0 ∨ j = 1 ∨ j = 2 ∨ j = 3 ∨ j = 4 ∨ j = 5 ∨ j = 6 ∨ j = 7 := by omega
          rcases h3 with rfl | rfl | rfl | rfl | rfl | rfl | rfl | rfl <;> first | (cases h1; done) | (rcases h4 with rfl | rfl | rfl | rfl | rfl | rfl | rfl | rfl <;> first | (cases h2; done) | exact absurd rfl hij)
        · intro x tm wr htm hbl hB i hi hd K hK
          simp only [fillA, List.setIfInBounds_toArray, List.set_cons_zero, List.set_cons_succ] at htm
          subst htm
          have hcs : i = 0 ∨ i = 1 ∨ i = 2 ∨ i = 3 ∨ i = 4 ∨ i = 5 ∨ i = 6 ∨ i = 7 := by omega
          clear hi
          rcases hcs with rfl | rfl | rfl | rfl | rfl | rfl | rfl | rfl
          · exact wpOp_of rfl rfl (wp_val_of (some 18) rfl (y) (by kernel_rfl) (hK _ _ ⟨rfl, Nx.refl _⟩))
          · exact wpOp_of rfl rfl (wp_val_of (some 19) rfl (.int .u8 1) (by kernel_rfl) (hK _ _ ⟨rfl, Nx.refl _⟩))
          · have e1 : x 1 = .int .u8 1 := hd 1 (by decide)
            generalize x 1 = y1 at e1 hK ⊢
            subst e1
            exact wpOp_of rfl rfl (wp_mk_of (some 20) rfl 29 1 _ rfl (#[(0, .int .u8 1)]) (by kernel_rfl) _ _ (run_mk1c 1 wr) (hK _ _ ⟨Own.one wr _ 1 rfl, (Nx.refl _).alloc _⟩))
          · have p0 := hd 0 (by decide)
            have e0 : x 0 = y := p0.1
            have o0 : Own (W.heap.size) wr (x 0) (B0 ++ B1) := p0.2 (by decide)
            have o2 : Own (W.heap.size) wr (x 2) [1] := hd 2 (by decide) (by decide)
            exact wpOp_of rfl rfl (wp_app_of (some 21) rfl (.tmp 18) (.tmp 20) 29 rfl Try.underlying29 info_u8p (W.heap.size) (x 0) (x 2) ((B0 ++ B1)) ([1]) rfl rfl o0 (o2.rd) (by have := HL0.out; have := HL1.out; rw [List.length_append, List.length_singleton]; omega) hB (fun v' w' h1 h2 h3 => hK v' w' ⟨h1, h2, h3⟩))
          · exact wpOp_of rfl rfl (wp_val_of (some 22) rfl (.pointer (some ⟨w.heap.size, 36, none⟩)) (by kernel_rfl) (hK _ _ ⟨rfl, Nx.refl _⟩))
          · have e4 : x 4 = .pointer (some ⟨w.heap.size, 36, none⟩) := hd 4 (by decide)
            generalize x 4 = y4 at e4 hK ⊢
            subst e4
            exact wpOp_of rfl rfl (wp_load_cell (some 23) rfl 29 (.tmp 22) rfl (w.heap.size) 36 rfl (.slice A l.length c) _ ((Row.blw K0 hbl HGB.out).cell HC3.out) Try.underlying29 rfl (hK _ _ ⟨rfl, Nx.refl _⟩))
          · have e5 : x 5 = .slice A l.length c := hd 5 (by decide)
            generalize x 5 = y5 at e5 hK ⊢
            subst e5
            exact wpOp_of rfl rfl (wp_callp_of (some 24) rfl 38 #[(.slice A l.length c)] (by kernel_rfl) (fun v w' => Own wr.heap.size w' v (B3)) (HRW.out wr _ (RL.out.nx (Nx.app HNW.out hbl))) (fun v w' h1 h2 => hK v w' ⟨h1, h2⟩))
          · have o3 : Own (W.heap.size) wr (x 3) ((B0 ++ B1) ++ [1]) := hd 3 (by decide) (by decide)
            have o6 : Own (W.heap.size) wr (x 6) (B3) := hd 6 (by decide) (by decide)
            exact wpOp_of rfl rfl (wp_app_of (some 25) rfl (.tmp 21) (.tmp 24) 29 rfl Try.underlying29 info_u8p (W.heap.size) (x 3) (x 6) ((B0 ++ B1 ++ [1])) (B3) rfl rfl o3 (o6.rd) (by have := HL0.out; have := HL1.out; have := HL3.out; rw [List.length_append, List.length_append, List.length_singleton]; omega) hB (fun v' w' h1 h2 h3 => hK v' w' ⟨h1, h2, h3⟩))
        · intro x tm wr htm hbl hv
          simp only [fillA, List.setIfInBounds_toArray, List.set_cons_zero, List.set_cons_succ] at htm
          subst htm
          have o7 := Lib.hid ((hv 7 (by decide) (by decide)).mono HB.out)
          have NF := Lib.hid (N1.out.trans (HNW.out.app hbl))
          generalize x 7 = z at *
          clear hv hbl K0
          go_wp2_with fail
          go_ret2
          exact ⟨_, rfl, by simpa [HB2.out] using o7.out, NF.out⟩
end Go.Proofs.Ytniaiglfgknfiaa