/- LAYER 7: Digest of the program. -/
import Derived.Test.YtnbonmkecmgphaaDoorTx24
import Derived.Test.YtnbonmkecmgphaaDoorTk
namespace Go.Proofs.YtnbonmkecmgphaaDoor
open Go Go.RowKit
set_option linter.unusedVariables false
set_option linter.unusedSimpArgs false
set_option linter.unusedVariables false
set_option linter.unusedSimpArgs false

/-- What is signed; whether it may be. -/
def dgB (t : Txn) (n : Nat) (x : List UInt8) (k h v : Nat) (b : Bool) (l : List UInt8) : List UInt8 := txB (bare t) ++ (putL n 2 ++ coinB x k h v b l)
def dgOk (t : Txn) (n : Int) (v : Nat) (l : List UInt8) : Bool := mayT t && decide (0 ≤ n) && decide (n < (t.ins.length : Int)) && mayB v l.length
def dgH (t : Txn) (n : Int) (x : List UInt8) (k h v : Nat) (b : Bool) (l : List UInt8) : List UInt8 := if dgOk t n v l = true then shaL (shaL (dgB t n.toNat x k h v b l)) else Z32
def dgE (t : Txn) (n : Int) (v : Nat) (l : List UInt8) : Int := if dgOk t n v l = true then 0 else 2
theorem dgH_length (t : Txn) (n : Int) (x : List UInt8) (k h v : Nat) (b : Bool) (l : List UInt8) : (dgH t n x k h v b l).length = 32 := by
  unfold dgH
  split
  · exact shaL_length _
  · exact Z32_length
theorem dg_no {t : Txn} {n : Int} {x : List UInt8} {k h v : Nat} {b : Bool} {l : List UInt8} (hd : dgOk t n v l = false) : dgE t n v l = 2 ∧ dgH t n x k h v b l = Z32 := by
  unfold dgE dgH
  rw [hd]
  exact ⟨rfl, rfl⟩
theorem dg_yes {t : Txn} {n : Int} {x : List UInt8} {k h v : Nat} {b : Bool} {l : List UInt8} (hd : dgOk t n v l = true) : dgE t n v l = 0 ∧ dgH t n x k h v b l = shaL (shaL (dgB t n.toNat x k h v b l)) := by
  unfold dgE dgH
  rw [hd]
  exact ⟨rfl, rfl⟩
theorem dgB_len {t : Txn} {n : Nat} {x : List UInt8} {k h v : Nat} {b : Bool} {l : List UInt8} (hm : mayT t = true) (hx : x.length = 32) (hk : k < 65536) (hh : h < 4294967296) (hc : mayB v l.length = true) : (txB (bare t)).length ≤ 8000 ∧ (putL n 2).length ≤ 8 ∧ (coinB x k h v b l).length ≤ 400 := by
  have h1 := (mayT_parts (mayT_bare hm)).2.2.2.2
  have h2 := putL_short n 2
  have h3 := ptL_short x k h hx
  have h4 := mayB_true hc
  have h5 := rowL_short l h4.2
  have h6 := putL_short v 8
  have h7 := putL_short (if b = true then 1 else 0) 1
  refine ⟨h1, h2, ?_⟩
  unfold coinB
  rw [if_pos hc]
  simp only [List.length_append]
  omega
set_option maxRecDepth 100000 in
set_option maxHeartbeats 8000000 in
theorem tdigest_any (iv ov : Value) (t : Txn) (n : Int) (x : List UInt8) (k h v : Nat) (b : Bool) (A : Option Addr) (l : List UInt8) (c : Nat) (w : World) (ht : TxAt w iv ov t) (hx : x.length = 32) (hk : k < 65536) (hh : h < 4294967296) (hl : Rd w (.slice A l.length c) l) (hr : l.length ≤ 140737488355328) (hki : KIs w) :
    Calls Tryd.prog 15 #[.agg #[iv, ov, .int .u32 (t.after : Int)], .int .i64 n, .agg (ccel x k h v b (.slice A l.length c))] w fun e w' => e = .returned (.tuple #[.agg (hcel (dgH t n x k h v b l)), .int .i64 (dgE t n v l)]) ∧ Nx w w' := by
  have HM := Lib.hid (fun w h => txmay_any iv ov t w h)
  have HT := Lib.hid ht
  have HL := Lib.hid hl
  have cz := Lib.hid info_tx
  have hc1 := Lib.hid (coinsz x k h v b (.slice A l.length c) hx)
  have HCP := Lib.hid (fun w hl => put_coin_any x k h v b (.slice A l.length c) l w hx hk hh hl hr)
  obtain ⟨A0, c0, hiv, hi1, hi2, -⟩ := ht.i.elem
  subst hiv
  obtain ⟨B0, d0, rfl, -⟩ := ht.o.elem
  obtain ⟨hz, hzs⟩ := zero_of_info info_hash7
  have io := Lib.hid (show (Tryd.prog.info? 28).map (·.size) = some (hcel Z32).size by rw [hcel_size, Z32_length]; exact hzs)
  have HZL : Hid (Z32.length = 32) := Lib.hid Z32_length
  have K0 := Lib.hid (((Row.new w #[.slice A0 t.ins.length c0, .slice B0 t.outs.length d0, .int .u32 (t.after : Int)] 26 _ rfl).alloc (.cells (ccel x k h v b (.slice A l.length c)) 35)).alloc (.cells (hcel Z32) 28))
  have KC := Lib.hid ((Row.new2 w (.cells #[.slice A0 t.ins.length c0, .slice B0 t.outs.length d0, .int .u32 (t.after : Int)] 26) (ccel x k h v b (.slice A l.length c)) 35).alloc (.cells (hcel Z32) 28))
  have KH := Lib.hid (show Row (((w.alloc (.cells #[.slice A0 t.ins.length c0, .slice B0 t.outs.length d0, .int .u32 (t.after : Int)] 26)).alloc (.cells (ccel x k h v b (.slice A l.length c)) 35)).alloc (.cells (hcel Z32) 28)) (w.heap.size + 1 + 1) (hcel Z32) 28 by
    have := Row.new ((w.alloc (.cells #[.slice A0 t.ins.length c0, .slice B0 t.outs.length d0, .int .u32 (t.after : Int)] 26)).alloc (.cells (ccel x k h v b (.slice A l.length c)) 35)) (hcel Z32) 28 _ rfl
    have hs : ((w.alloc (.cells #[.slice A0 t.ins.length c0, .slice B0 t.outs.length d0, .int .u32 (t.after : Int)] 26)).alloc (.cells (ccel x k h v b (.slice A l.length c)) 35)).heap.size = w.heap.size + 1 + 1 := by simp
    rw [hs] at this
    exact this)
  have N0 := Lib.hid ((((Nx.refl w).alloc (.cells #[.slice A0 t.ins.length c0, .slice B0 t.outs.length d0, .int .u32 (t.after : Int)] 26)).alloc (.cells (ccel x k h v b (.slice A l.length c)) 35)).alloc (.cells (hcel Z32) 28))
  have a0 := K0.out.cell (i := 0) (v := .slice A0 t.ins.length c0) rfl
  have a1 := K0.out.cell (i := 1) (v := .slice B0 t.outs.length d0) rfl
  have a2 := K0.out.cell (i := 2) (v := .int .u32 (t.after : Int)) rfl
  cases hm : mayT t
  · obtain ⟨e1, e2⟩ := dg_no (t := t) (n := n) (x := x) (k := k) (h := h) (v := v) (b := b) (l := l) (by unfold dgOk; rw [hm]; rfl)
    rw [e1, e2]
    rw [hm] at HM
    clear hm e1 e2 ht hx hk hh hl hr hki hi1 hi2 HCP
    go_enter Tryd.func15, Tryd.ntmps15
    go_wp2_with fail
    refine (HM.out _ (HT.out.nx N0.out)).mono ?_
    rintro e w1 ⟨rfl, n1⟩
    have N1 := Lib.hid (N0.out.trans n1)
    have RH := KH.out.nx n1
    clear a0 a1 a2 n1 N0 K0 KC KH
    go_wp2_with (refine wpList_store_row rfl 28 (.tmp 6) (.tmp 26) rfl (w.heap.size + 1 + 1) (hcel Z32) rfl rfl 28 (hcel Z32) RH io.out rfl (hcel_one _) ?_)
    exact bodyPost_ret (results_cell_row2 Tryd.results15 _ _ (w.heap.size + 1 + 1) 28 (hcel Z32) (0, 0) _ rfl (RH.setRow _) Tryd.underlying28 rfl io.out) rfl ⟨rfl, N1.out.setRow _ (by omega)⟩
  have hq := (mayT_parts hm).1
  by_cases hn : 0 ≤ n ∧ n < (t.ins.length : Int)
  · obtain ⟨m, rfl⟩ := Int.eq_ofNat_of_zero_le hn.1
    have hm16 : (m : Int) ≤ 16 := by omega
    have hm0 : (0 : Int) ≤ (m : Int) := by omega
    have hlt1 : (m : Int) < (t.ins.length : Int) := hn.2
    have HS := Lib.hid (fun W x => stripped_any (.slice A0 t.ins.length c0) (.slice B0 t.outs.length d0) t W x hq)
    have HPB : Hid (∀ W iv', TxAt W iv' (.slice B0 t.outs.length d0) (bare t) → Calls Tryd.prog 11 #[.agg #[iv', .slice B0 t.outs.length d0, .int .u32 (t.after : Int)]] W fun e w' => ∃ r, e = .returned (.tuple #[r, .int .i64 0]) ∧ Own W.heap.size w' r (txB (bare t)) ∧ Nx W w') := Lib.hid (fun W iv' x => by
      have := txput_any iv' (.slice B0 t.outs.length d0) (bare t) W x.i x.o x.a x.g
      rw [(pt_yes (mayT_bare hm)).1, (pt_yes (mayT_bare hm)).2] at this
      exact this)
    cases hmb : mayB v l.length
    · obtain ⟨e1, e2⟩ := dg_no (t := t) (n := m) (x := x) (k := k) (h := h) (v := v) (b := b) (l := l) (by unfold dgOk; rw [hmb]; simp)
      have e3 : outE v l = 2 := by unfold outE; rw [hmb]; rfl
      rw [e1, e2]
      rw [hm] at HM
      rw [e3] at HCP
      clear hm e1 e2 e3 ht hx hk hh hl hr hki hmb hq hn HS HPB hi1 hi2
      go_enter Tryd.func15, Tryd.ntmps15
      go_wp2_with fail
      refine (HM.out _ (HT.out.nx N0.out)).mono ?_
      rintro e w1 ⟨rfl, n1⟩
      have N1 := Lib.hid (N0.out.trans n1)
      have K1 := K0.out.nx n1
      have RH := Lib.hid (KH.out.nx n1)
      have RC := KC.out.nx n1
      clear a0 a1 a2 n1 N0 K0 KC KH
      have a0 := K1.cell (i := 0) (v := .slice A0 t.ins.length c0) rfl
      clear K1
      go_wp2_with (refine wpList_load_row rfl 35 (.tmp 5) rfl (w.heap.size + 1) rfl 35 (ccel x k h v b (.slice A l.length c)) (0, 0) _ RC Tryd.underlying35 rfl hc1.out ?_)
      refine (HCP.out _ (HL.out.nx N1.out)).mono ?_
      rintro e w2 ⟨r, rfl, o2, n2⟩
      have N2 := Lib.hid (N1.out.trans n2)
      have RH2 := RH.out.nx n2
      clear a0 n2 N1 RC RH o2
      go_wp2_with (refine wpList_store_row rfl 28 (.tmp 6) (.tmp 34) rfl (w.heap.size + 1 + 1) (hcel Z32) rfl rfl 28 (hcel Z32) RH2 io.out rfl (hcel_one _) ?_)
      exact bodyPost_ret (results_cell_row2 Tryd.results15 _ _ (w.heap.size + 1 + 1) 28 (hcel Z32) (0, 0) _ rfl (RH2.setRow _) Tryd.underlying28 rfl io.out) rfl ⟨rfl, N2.out.setRow _ (by omega)⟩
    · obtain ⟨e1, e2⟩ := dg_yes (t := t) (n := m) (x := x) (k := k) (h := h) (v := v) (b := b) (l := l) (by unfold dgOk; rw [hmb, hm]; simp; omega)
      have e3 : outE v l = 0 := by unfold outE; rw [hmb]; rfl
      obtain ⟨g1, g2, g3⟩ := dgB_len (t := t) (n := m) (x := x) (k := k) (h := h) (v := v) (b := b) (l := l) hm hx hk hh hmb
      rw [e1, e2, Int.toNat_natCast]
      rw [hm] at HM
      rw [e3] at HCP
      have HCC : Hid (∀ (wr : World) (y : Value), CatAt y [txB (bare t), putL m 2, coinB x k h v b l] wr → Calls Tryd.prog 34 #[y] wr fun e w' => ∃ u, e = .returned u ∧ Own wr.heap.size w' u (dgB t m x k h v b l) ∧ Nx wr w') := Lib.hid fun wr y hy => by
        have := concat_at wr hy (by simp) (by simp only [List.flatten_cons, List.flatten_nil, List.append_nil, List.length_append]; omega) _ (Nat.le_refl _)
        simp only [List.flatten_cons, List.flatten_nil, List.append_nil] at this
        exact this
      have HTW : Hid (∀ W v', Nx w W → Rd W v' (dgB t m x k h v b l) → Calls Tryd.prog 40 #[v'] W fun e w' => e = .returned (.agg (hcel (shaL (shaL (dgB t m x k h v b l))))) ∧ Nx W w') := Lib.hid fun W v' y hv => twice_any v' _ W (hki.nx y) hv (by unfold dgB; simp only [List.length_append]; omega)
      have HIL : Hid ((shaL (shaL (dgB t m x k h v b l))).length = 32) := Lib.hid (shaL_length _)
      have HNB := Lib.hid (fun W => tnumb_any m 2 W)
      generalize shaL (shaL (dgB t m x k h v b l)) = I at *
      generalize dgB t m x k h v b l = D at *
      generalize coinB x k h v b l = C0 at *
      generalize txB (bare t) = L0 at *
      generalize putL m 2 = P0 at *
      have h2 := Lib.hid (hashsz I HIL.out)
      have h4 := Lib.hid (hashsame Z32 I HZL.out HIL.out)
      clear hm e1 e2 e3 ht hx hk hh hl hr hki hmb hq hn g1 g2 g3 hi1 hi2
      go_enter Tryd.func15, Tryd.ntmps15
      go_wp2_with fail
      refine (HM.out _ (HT.out.nx N0.out)).mono ?_
      rintro e w1 ⟨rfl, n1⟩
      have N1 := Lib.hid (N0.out.trans n1)
      have K1 := K0.out.nx n1
      have RH := Lib.hid (KH.out.nx n1)
      have RC := KC.out.nx n1
      clear a0 a1 a2 n1 N0 K0 KC KH
      have a0 := K1.cell (i := 0) (v := .slice A0 t.ins.length c0) rfl
      go_wp2_with (refine wpList_load_row rfl 35 (.tmp 5) rfl (w.heap.size + 1) rfl 35 (ccel x k h v b (.slice A l.length c)) (0, 0) _ RC Tryd.underlying35 rfl hc1.out ?_)
      refine (HCP.out _ (HL.out.nx N1.out)).mono ?_
      rintro e w2 ⟨r2, rfl, o2, n2⟩
      have O2 := Lib.hid o2.rd
      obtain ⟨A2, c2, rfl, -⟩ := o2.rd
      have N2 := Lib.hid (N1.out.trans n2)
      have K2 := K1.nx n2
      replace RH := Lib.hid (RH.out.nx n2)
      clear a0 n2 N1 RC o2 K1 HCP HM
      have a0 := K2.cell (i := 0) (v := .slice A0 t.ins.length c0) rfl
      have a1 := K2.cell (i := 1) (v := .slice B0 t.outs.length d0) rfl
      have a2 := K2.cell (i := 2) (v := .int .u32 (t.after : Int)) rfl
      clear K2
      go_wp2_with fail
      refine (HS.out _ (HT.out.nx N2.out)).mono ?_
      rintro e w3 ⟨iv3, rfl, t3, n3⟩
      have T3 := Lib.hid t3
      have N3 := Lib.hid (N2.out.trans n3)
      replace O2 := Lib.hid (O2.out.nx n3)
      replace RH := Lib.hid (RH.out.nx n3)
      clear n3 t3 N2 a0 a1 a2 HS
      go_wp2_with fail
      refine (HPB.out _ _ T3.out).mono ?_
      rintro e w4 ⟨r4, rfl, o4, n4⟩
      have O4 := Lib.hid o4.rd
      obtain ⟨A4, c4, rfl, -⟩ := o4.rd
      have N4 := Lib.hid (N3.out.trans n4)
      replace O2 := Lib.hid (O2.out.nx n4)
      replace RH := Lib.hid (RH.out.nx n4)
      clear n4 o4 N3 HPB T3
      go_wp2_with fail
      refine (HNB.out _).mono ?_
      rintro e w5 ⟨r5, rfl, o5, n5⟩
      have O5 := Lib.hid o5.rd
      obtain ⟨A5, c5, rfl, -⟩ := o5.rd
      have N5 := Lib.hid (N4.out.trans n5)
      replace O2 := Lib.hid (O2.out.nx n5)
      replace O4 := Lib.hid (O4.out.nx n5)
      replace RH := Lib.hid (RH.out.nx n5)
      clear n5 o5 N4 HNB
      have CA := Lib.hid (catAt3 O4.out O5.out O2.out)
      have NC := (Nx.refl w5).alloc (.cells #[.slice A4 L0.length c4, .slice A5 P0.length c5, .slice A2 C0.length c2] 33)
      have N6 := Lib.hid (N5.out.trans NC)
      replace RH := Lib.hid (RH.out.nx NC)
      clear NC N5
      go_wp2_with fail
      refine (HCC.out _ _ CA.out).mono ?_
      rintro e w6 ⟨r6, rfl, o6, n6⟩
      have O6 := Lib.hid o6.rd
      have N7 := Lib.hid (N6.out.trans n6)
      replace RH := Lib.hid (RH.out.nx n6)
      clear n6 o6 N6 CA HCC
      go_wp2_with fail
      refine (HTW.out _ _ N7.out O6.out).mono ?_
      rintro e w7 ⟨rfl, n7⟩
      have N8 := Lib.hid (N7.out.trans n7)
      have RH2 := RH.out.nx n7
      clear n7 N7 RH HTW
      go_wp2_with (refine wpList_store_row rfl 28 (.tmp 6) (.tmp 48) rfl (w.heap.size + 1 + 1) (hcel I) rfl rfl 28 (hcel Z32) RH2 h2.out h4.out (hcel_one _) ?_)
      exact bodyPost_ret (results_cell_row2 Tryd.results15 _ _ (w.heap.size + 1 + 1) 28 (hcel I) (0, 0) _ rfl (RH2.setRow _) Tryd.underlying28 rfl h2.out) rfl ⟨rfl, N8.out.setRow _ (by omega)⟩
  · obtain ⟨e1, e2⟩ := dg_no (t := t) (n := n) (x := x) (k := k) (h := h) (v := v) (b := b) (l := l) (by
      unfold dgOk
      by_cases h0 : 0 ≤ n
      · have : ¬ n < (t.ins.length : Int) := fun h1 => hn ⟨h0, h1⟩
        simp [this]
      · simp [h0])
    rw [e1, e2]
    rw [hm] at HM
    by_cases h0 : n < 0
    · clear hm e1 e2 ht hx hk hh hl hr hki hq hn HCP hi1 hi2
      go_enter Tryd.func15, Tryd.ntmps15
      go_wp2_with fail
      refine (HM.out _ (HT.out.nx N0.out)).mono ?_
      rintro e w1 ⟨rfl, n1⟩
      have N1 := Lib.hid (N0.out.trans n1)
      have RH := KH.out.nx n1
      clear a0 a1 a2 n1 N0 K0 KC KH
      go_wp2_with (refine wpList_store_row rfl 28 (.tmp 6) (.tmp 26) rfl (w.heap.size + 1 + 1) (hcel Z32) rfl rfl 28 (hcel Z32) RH io.out rfl (hcel_one _) ?_)
      exact bodyPost_ret (results_cell_row2 Tryd.results15 _ _ (w.heap.size + 1 + 1) 28 (hcel Z32) (0, 0) _ rfl (RH.setRow _) Tryd.underlying28 rfl io.out) rfl ⟨rfl, N1.out.setRow _ (by omega)⟩
    · have h5 : (t.ins.length : Int) ≤ n := by omega
      have h6 : ¬ n < 0 := h0
      clear hm e1 e2 ht hx hk hh hl hr hki hq hn HCP hi1 hi2 h0
      go_enter Tryd.func15, Tryd.ntmps15
      go_wp2_with fail
      refine (HM.out _ (HT.out.nx N0.out)).mono ?_
      rintro e w1 ⟨rfl, n1⟩
      have N1 := Lib.hid (N0.out.trans n1)
      have RH := KH.out.nx n1
      have K1 := K0.out.nx n1
      clear a0 a1 a2 n1 N0 K0 KC KH
      have a0 := K1.cell (i := 0) (v := .slice A0 t.ins.length c0) rfl
      clear K1
      go_wp2_with (refine wpList_store_row rfl 28 (.tmp 6) (.tmp 26) rfl (w.heap.size + 1 + 1) (hcel Z32) rfl rfl 28 (hcel Z32) RH io.out rfl (hcel_one _) ?_)
      exact bodyPost_ret (results_cell_row2 Tryd.results15 _ _ (w.heap.size + 1 + 1) 28 (hcel Z32) (0, 0) _ rfl (RH.setRow _) Tryd.underlying28 rfl io.out) rfl ⟨rfl, N1.out.setRow _ (by omega)⟩
end Go.Proofs.YtnbonmkecmgphaaDoor
