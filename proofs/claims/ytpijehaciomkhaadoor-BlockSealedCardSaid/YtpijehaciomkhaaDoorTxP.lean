/- LAYER 7: plain facts: a transaction's bytes are got back, wherever they stand; what is got is put as the same bytes. -/
import Derived.Test.YtpijehaciomkhaaDoorTr
namespace Go.Proofs.YtpijehaciomkhaaDoor
open Go Go.RowKit
set_option linter.unusedVariables false
set_option linter.unusedSimpArgs false
set_option linter.unusedVariables false
set_option linter.unusedSimpArgs false

theorem ptL_low (tx : List UInt8) (n h : Nat) (hn : n < 65536) (hh : h < 4294967296) : ptL tx n h = tx ++ (low n 2 ++ low h 4) := by
  have hp2 : putL n 2 = low n 2 := putL_low (k := 2) (by omega) (by omega)
  have hp4 : putL h 4 = low h 4 := putL_low (k := 4) (by omega) (by omega)
  unfold ptL
  rw [hp2, hp4]
theorem pt_mid (tx : List UInt8) (n h : Nat) (pre rest : List UInt8) (ht : tx.length = 32) (hn : n < 65536) (hh : h < 4294967296) :
    gpE (pre ++ ptL tx n h ++ rest) pre.length = 0 ∧ gpX (pre ++ ptL tx n h ++ rest) pre.length = tx ∧ gpN (pre ++ ptL tx n h ++ rest) pre.length = n ∧ gpH (pre ++ ptL tx n h ++ rest) pre.length = h ∧ gpP (pre ++ ptL tx n h ++ rest) pre.length = ((pre.length + 38 : Nat) : Int) ∧ (ptL tx n h).length = 38 := by
  have hpt := ptL_low tx n h hn hh
  have hpl : (ptL tx n h).length = 38 := by rw [hpt]; simp [ht]
  generalize hL : pre ++ ptL tx n h ++ rest = L
  have c38 : pre.length + 38 ≤ L.length := by rw [← hL]; simp only [List.length_append, hpl]; omega
  have hE : gpE L pre.length = 0 := by unfold gpE; exact cutE_ok (m := 38) c38
  have hcut : cutL L (pre.length : Int) 38 = ptL tx n h := by
    have := cutL_ok (l := L) (i := pre.length) (m := 38) c38
    have h2 := piece_mid hL.symm
    rw [hpl] at h2
    rw [show (38 : Int) = ((38 : Nat) : Int) from rfl, this, h2]
  have hX : gpX L pre.length = tx := by
    unfold gpX; rw [if_pos hE, hcut, hpt, List.take_left' ht]
  have hN : gpN L pre.length = n := by
    unfold gpN
    rw [if_pos hE, hcut, hpt, ← List.append_assoc]
    have := getN_mid tx (low n 2) (low h 4) 32 2 ht.symm (by simp) (by decide)
    rw [show (32 : Int) = ((32 : Nat) : Int) from rfl, show (2 : Int) = ((2 : Nat) : Int) from rfl, this, num_low _ _ (by omega)]
  have hH : gpH L pre.length = h := by
    unfold gpH
    rw [if_pos hE, hcut, hpt]
    have := getN_mid (tx ++ low n 2) (low h 4) [] 34 4 (by simp [ht]) (by simp) (by decide)
    rw [List.append_nil, List.append_assoc] at this
    rw [show (34 : Int) = ((34 : Nat) : Int) from rfl, show (4 : Int) = ((4 : Nat) : Int) from rfl, this, num_low _ _ (by omega)]
  have hP : gpP L pre.length = ((pre.length + 38 : Nat) : Int) := by unfold gpP; rw [if_pos hE]; push_cast; rfl
  exact ⟨hE, hX, hN, hH, hP, hpl⟩
theorem in_mid (i : Inp) (pre rest : List UInt8) (hi : InOk i) (hu : i.u.length ≤ 3000) : inT (pre ++ inB i ++ rest) pre.length = (i, (pre.length : Int) + ((inB i).length : Int), 0) := by
  obtain ⟨hE, hX, hN, hH, hP, hl⟩ := pt_mid i.x i.n i.h pre (rowL i.u ++ rest) hi.1 hi.2.1 hi.2.2
  have e1 : pre ++ ptL i.x i.n i.h ++ (rowL i.u ++ rest) = pre ++ inB i ++ rest := by simp [inB]
  rw [e1] at hE hX hN hH hP
  have e2 : (pre ++ ptL i.x i.n i.h) ++ rowL i.u ++ rest = pre ++ inB i ++ rest := by simp [inB]
  have hG := gr_mid (pre ++ ptL i.x i.n i.h) i.u rest 3000 (by omega) (by omega)
  rw [e2, List.length_append, hl] at hG
  rw [← hP] at hG
  rw [inT_good hE (by rw [hG]), hX, hN, hH, hG]
  simp only [Prod.mk.injEq, true_and, and_true]
  rw [hP]
  unfold inB
  rw [List.length_append, hl]
  push_cast
  omega
theorem out_mid (o : Outp) (pre rest : List UInt8) (hm : mayB o.v o.l.length = true) : otT (pre ++ outB o.v o.l ++ rest) pre.length = (o, (pre.length : Int) + ((outB o.v o.l).length : Int), 0) := by
  obtain ⟨hv, hl⟩ := mayB_true hm
  have hp8 : putL o.v 8 = low o.v 8 := putL_low (k := 8) (by omega) (by omega)
  have hob : outB o.v o.l = low o.v 8 ++ rowL o.l := by unfold outB; rw [if_pos hm, hp8]
  have a1 := getE_mid pre (low o.v 8) (rowL o.l ++ rest) pre.length 8 rfl (by simp) (by decide)
  have a2 := getN_mid pre (low o.v 8) (rowL o.l ++ rest) pre.length 8 rfl (by simp) (by decide)
  rw [num_low _ _ (by omega)] at a2
  have e1 : pre ++ low o.v 8 ++ (rowL o.l ++ rest) = pre ++ outB o.v o.l ++ rest := by rw [hob]; simp
  have e2 : (pre ++ low o.v 8) ++ rowL o.l ++ rest = pre ++ outB o.v o.l ++ rest := by rw [hob]; simp
  rw [e1] at a1 a2
  have hV : gvT (pre ++ outB o.v o.l ++ rest) (pre.length : Int) = (o.v, ((pre.length + 8 : Nat) : Int), 0) := by
    unfold gvT
    rw [show (8 : Int) = ((8 : Nat) : Int) from rfl, a1, a2, if_neg (by simp), if_neg (by omega)]
    push_cast
    rfl
  have hG := gr_mid (pre ++ low o.v 8) o.l rest 100 (by omega) (by omega)
  rw [e2, List.length_append, low_length] at hG
  have hg : goT (pre ++ outB o.v o.l ++ rest) (pre.length : Int) = (o.v, o.l, ((pre.length + 8 : Nat) : Int) + ((rowL o.l).length : Int), 0) := by
    unfold goT
    rw [hV]
    dsimp only
    rw [hG]
    rfl
  rw [otT_good (by rw [hg]), hg]
  simp only [Prod.mk.injEq, true_and, and_true]
  rw [hob, List.length_append, low_length]
  push_cast
  omega
theorem ls_mid {α : Type} (f : List UInt8 → Int → α × Int × Int) (enc : α → List UInt8) (es : List α) : ∀ (pre rest : List UInt8), (∀ a ∈ es, ∀ pre rest, f (pre ++ enc a ++ rest) (pre.length : Int) = (a, (pre.length : Int) + ((enc a).length : Int), 0)) →
    lsT (f (pre ++ (es.map enc).flatten ++ rest)) es.length pre.length = (es, (pre.length : Int) + (((es.map enc).flatten).length : Int), 0) := by
  induction es with
  | nil => intro pre rest _; simp [lsT]
  | cons a r ih =>
    intro pre rest h
    have h0 := h a (List.mem_cons_self ..) pre ((r.map enc).flatten ++ rest)
    have e1 : pre ++ enc a ++ ((r.map enc).flatten ++ rest) = pre ++ ((a :: r).map enc).flatten ++ rest := by simp
    have e2 : (pre ++ enc a) ++ (r.map enc).flatten ++ rest = pre ++ ((a :: r).map enc).flatten ++ rest := by simp
    rw [e1] at h0
    have h1 := ih (pre ++ enc a) rest (fun x hx => h x (List.mem_cons_of_mem _ hx))
    rw [e2] at h1
    have e3 : ((pre ++ enc a).length : Int) = (pre.length : Int) + ((enc a).length : Int) := by simp
    rw [e3] at h1
    simp only [List.length_cons, lsT, h0, h1]
    simp only [List.map_cons, List.flatten_cons, List.length_append]
    push_cast
    simp
    omega
theorem cn_mid (n : Nat) (pre rest : List UInt8) (h : n ≤ 16) : cnT (pre ++ countL n ++ rest) pre.length 16 = (n, (pre.length : Int) + ((countL n).length : Int), 0) := by
  have h1 := gc_count pre rest n (by omega)
  unfold cnT
  rw [h1]
  simp only []
  rw [if_neg (by simp), if_neg (by omega)]
/-- What may be, in parts. -/
theorem mayT_parts {t : Txn} (h : mayT t = true) : t.ins.length ≤ 16 ∧ t.outs.length ≤ 16 ∧ (∀ i ∈ t.ins, i.u.length ≤ 3000) ∧ (∀ o ∈ t.outs, mayB o.v o.l.length = true) ∧ (txB t).length ≤ 8000 := by
  unfold mayT at h
  simp only [Bool.and_eq_true, decide_eq_true_eq, List.all_eq_true] at h
  obtain ⟨⟨⟨⟨h1, h2⟩, h3⟩, h4⟩, h5⟩ := h
  exact ⟨h1, h2, h3, h4, h5⟩
theorem mayT_of {t : Txn} (h1 : t.ins.length ≤ 16) (h2 : t.outs.length ≤ 16) (h3 : ∀ i ∈ t.ins, i.u.length ≤ 3000) (h4 : ∀ o ∈ t.outs, mayB o.v o.l.length = true) (h5 : (txB t).length ≤ 8000) : mayT t = true := by
  unfold mayT
  simp only [Bool.and_eq_true, decide_eq_true_eq, List.all_eq_true]
  exact ⟨⟨⟨⟨h1, h2⟩, h3⟩, h4⟩, h5⟩
/-- A transaction's bytes are got back. -/
theorem tx_back (t : Txn) (pre rest : List UInt8) (hm : mayT t = true) (hi : ∀ i ∈ t.ins, InOk i) (ha : t.after < 4294967296) : tgT (pre ++ txB t ++ rest) pre.length = (t, (pre.length : Int) + ((txB t).length : Int), 0) := by
  obtain ⟨m1, m2, m3, m4, m5⟩ := mayT_parts hm
  have hp4 : putL t.after 4 = low t.after 4 := putL_low (k := 4) (by omega) (by omega)
  have hB : txB t = countL t.ins.length ++ insB t.ins ++ countL t.outs.length ++ outsB t.outs ++ low t.after 4 := by unfold txB midB preB; rw [hp4]
  generalize hL : pre ++ txB t ++ rest = L
  have c1 := cn_mid t.ins.length pre (insB t.ins ++ countL t.outs.length ++ outsB t.outs ++ low t.after 4 ++ rest) m1
  have e1 : pre ++ countL t.ins.length ++ (insB t.ins ++ countL t.outs.length ++ outsB t.outs ++ low t.after 4 ++ rest) = L := by rw [← hL, hB]; simp
  rw [e1] at c1
  have l1 := ls_mid inT inB t.ins (pre ++ countL t.ins.length) (countL t.outs.length ++ outsB t.outs ++ low t.after 4 ++ rest) (fun a ha pre rest => in_mid a pre rest (hi a ha) (m3 a ha))
  have e2 : (pre ++ countL t.ins.length) ++ (t.ins.map inB).flatten ++ (countL t.outs.length ++ outsB t.outs ++ low t.after 4 ++ rest) = L := by rw [← hL, hB]; simp [insB]
  rw [e2] at l1
  have l1' : lsO (inT L) (cnT L pre.length 16) = (t.ins, (pre.length : Int) + ((countL t.ins.length).length : Int) + ((insB t.ins).length : Int), 0) := by
    rw [c1]
    unfold lsO
    rw [if_neg (by simp)]
    dsimp only
    rw [List.length_append] at l1
    push_cast at l1
    rw [l1]
    rfl
  have c2 := cn_mid t.outs.length (pre ++ countL t.ins.length ++ insB t.ins) (outsB t.outs ++ low t.after 4 ++ rest) m2
  have e3 : (pre ++ countL t.ins.length ++ insB t.ins) ++ countL t.outs.length ++ (outsB t.outs ++ low t.after 4 ++ rest) = L := by rw [← hL, hB]; simp
  rw [e3] at c2
  have l2 := ls_mid otT (fun o => outB o.v o.l) t.outs (pre ++ countL t.ins.length ++ insB t.ins ++ countL t.outs.length) (low t.after 4 ++ rest) (fun a ha pre rest => out_mid a pre rest (m4 a ha))
  have e4 : (pre ++ countL t.ins.length ++ insB t.ins ++ countL t.outs.length) ++ (t.outs.map fun o => outB o.v o.l).flatten ++ (low t.after 4 ++ rest) = L := by rw [← hL, hB]; simp [outsB]
  rw [e4] at l2
  have p2 : (pre.length : Int) + ((countL t.ins.length).length : Int) + ((insB t.ins).length : Int) = (((pre ++ countL t.ins.length ++ insB t.ins).length : Nat) : Int) := by simp only [List.length_append]; push_cast; rfl
  have l2' : lsO (otT L) (cnT L (((pre ++ countL t.ins.length ++ insB t.ins).length : Nat) : Int) 16) = (t.outs, (((pre ++ countL t.ins.length ++ insB t.ins ++ countL t.outs.length).length : Nat) : Int) + ((outsB t.outs).length : Int), 0) := by
    rw [c2]
    unfold lsO
    rw [if_neg (by simp)]
    dsimp only
    have e : (((pre ++ countL t.ins.length ++ insB t.ins).length : Nat) : Int) + ((countL t.outs.length).length : Int) = (((pre ++ countL t.ins.length ++ insB t.ins ++ countL t.outs.length).length : Nat) : Int) := by simp only [List.length_append]; push_cast; rfl
    rw [e, l2]
    rfl
  have p3 : (((pre ++ countL t.ins.length ++ insB t.ins ++ countL t.outs.length).length : Nat) : Int) + ((outsB t.outs).length : Int) = (((pre ++ countL t.ins.length ++ insB t.ins ++ countL t.outs.length ++ outsB t.outs).length : Nat) : Int) := by simp only [List.length_append]; push_cast; rfl
  rw [p3] at l2'
  rw [p2] at l1'
  have e5 : (pre ++ countL t.ins.length ++ insB t.ins ++ countL t.outs.length ++ outsB t.outs) ++ low t.after 4 ++ rest = L := by rw [← hL, hB]; simp
  have g1 := getE_mid (pre ++ countL t.ins.length ++ insB t.ins ++ countL t.outs.length ++ outsB t.outs) (low t.after 4) rest _ 4 rfl (by simp) (by decide)
  have g2 := getN_mid (pre ++ countL t.ins.length ++ insB t.ins ++ countL t.outs.length ++ outsB t.outs) (low t.after 4) rest _ 4 rfl (by simp) (by decide)
  rw [e5] at g1 g2
  rw [num_low _ _ (by omega)] at g2
  have hlen : (txB t).length = (countL t.ins.length).length + (insB t.ins).length + (countL t.outs.length).length + (outsB t.outs).length + 4 := by rw [hB]; simp only [List.length_append, low_length]
  rw [tg_e l1' l2' g1 (by simp only [List.length_append]; push_cast; omega), show (4 : Int) = ((4 : Nat) : Int) from rfl, g2]
  simp only [Prod.mk.injEq, true_and, and_true, List.length_append]
  push_cast
  omega
theorem in_got {l : List UInt8} {p : Int} (h : (inT l p).2.2 = 0) : ∃ i k : Nat, p = (i : Int) ∧ (inT l p).2.1 = ((i + k : Nat) : Int) ∧ i + k ≤ l.length ∧ inB (inT l p).1 = (l.drop i).take k := by
  by_cases hE : gpE l p = 0
  · obtain ⟨hc1, hp0, hc2⟩ := cut38 hE
    obtain ⟨i, rfl⟩ := Int.eq_ofNat_of_zero_le hp0
    by_cases hR : (gr l (gpP l (i : Int)) 3000).2.2 = 0
    · have hP : gpP l (i : Int) = ((i + 38 : Nat) : Int) := by unfold gpP; rw [if_pos hE]; push_cast; rfl
      obtain ⟨j, k, hj, hk, hjk, hrow, hmost⟩ := gr_got hR
      obtain rfl : j = i + 38 := by omega
      rw [inT_good hE hR]
      refine ⟨i, 38 + k, rfl, by rw [hk]; push_cast; omega, by omega, ?_⟩
      have c38 : i + 38 ≤ l.length := by omega
      have hcut : cutL l (i : Int) 38 = (l.drop i).take 38 := cutL_ok (l := l) (i := i) (m := 38) c38
      have hX : gpX l i = (l.drop i).take 32 := by unfold gpX; rw [if_pos hE, hcut, List.take_take]; rfl
      have hN : gpN l i = num ((l.drop (i + 32)).take 2) := by
        unfold gpN
        rw [if_pos hE, hcut]
        have := (get_at (l := (l.drop i).take 38) (i := 32) (m := 2) (by omega) (by simp; omega)).2
        rw [show (32 : Int) = ((32 : Nat) : Int) from rfl, show (2 : Int) = ((2 : Nat) : Int) from rfl, this, List.drop_take, List.take_take, List.drop_drop]
        rfl
      have hH : gpH l i = num ((l.drop (i + 34)).take 4) := by
        unfold gpH
        rw [if_pos hE, hcut]
        have := (get_at (l := (l.drop i).take 38) (i := 34) (m := 4) (by omega) (by simp; omega)).2
        rw [show (34 : Int) = ((34 : Nat) : Int) from rfl, show (4 : Int) = ((4 : Nat) : Int) from rfl, this, List.drop_take, List.take_take, List.drop_drop]
        rfl
      unfold inB
      dsimp only
      rw [ptL_low _ _ _ (gpN_lt l i) (gpH_lt l i), hX, hN, hH, hrow]
      have q2 := low_num ((l.drop (i + 32)).take 2)
      have q4 := low_num ((l.drop (i + 34)).take 4)
      have e2 : ((l.drop (i + 32)).take 2).length = 2 := by simp; omega
      have e4 : ((l.drop (i + 34)).take 4).length = 4 := by simp; omega
      rw [e2] at q2
      rw [e4] at q4
      rw [q2, q4]
      have s1 : (l.drop i).take (38 + k) = (l.drop i).take 38 ++ (l.drop (i + 38)).take k := by rw [List.take_add, List.drop_drop]
      have s2 : (l.drop i).take 38 = (l.drop i).take 32 ++ ((l.drop (i + 32)).take 2 ++ (l.drop (i + 34)).take 4) := by
        rw [show (38 : Nat) = 32 + 6 from rfl, List.take_add, List.drop_drop, show (6 : Nat) = 2 + 4 from rfl, List.take_add, List.drop_drop]
      rw [s1, s2]
    · rw [inT_bad2 hE hR] at h; exact absurd h hR
  · rw [inT_bad1 hE] at h; exact absurd h hE
theorem out_got {l : List UInt8} {p : Int} (h : (otT l p).2.2 = 0) : ∃ i k : Nat, p = (i : Int) ∧ (otT l p).2.1 = ((i + k : Nat) : Int) ∧ i + k ≤ l.length ∧ outB (otT l p).1.v (otT l p).1.l = (l.drop i).take k ∧ mayB (otT l p).1.v (otT l p).1.l.length = true := by
  by_cases hG : (goT l p).2.2.2 = 0
  · rw [otT_good hG]
    dsimp only
    unfold goT at hG ⊢
    by_cases hV : (gvT l p).2.2 = 0
    · rw [if_neg (by simp [hV])] at hG ⊢
      by_cases hR : (gr l (gvT l p).2.1 100).2.2 = 0
      · rw [if_neg (by simp [hR])]
        dsimp only
        rcases gv_cases l p with ⟨h1, h2⟩ | ⟨h1, ⟨h3, h2⟩ | ⟨h3, h2⟩⟩
        · rw [h2] at hV; exact absurd hV h1
        · rw [h2] at hV; cases hV
        · obtain ⟨hp0, hp1, -⟩ := getE_ok h1
          obtain ⟨i, rfl⟩ := Int.eq_ofNat_of_zero_le hp0
          have hVN : getN l (i : Int) 8 = num ((l.drop i).take 8) := (get_at (l := l) (i := i) (m := 8) (by omega) (by omega)).2
          obtain ⟨j, k, hj, hk, hjk, hrow, hmost⟩ := gr_got hR
          rw [h2] at hj hk hrow hmost ⊢
          dsimp only at hj hk hrow hmost ⊢
          obtain rfl : j = i + 8 := by omega
          have hm : mayB (getN l (i : Int) 8) (gr l ((i : Int) + 8) 100).1.length = true := by
            unfold mayB
            rw [Bool.and_eq_true, decide_eq_true_iff, decide_eq_true_iff]
            exact ⟨by omega, by omega⟩
          refine ⟨i, 8 + k, rfl, by rw [hk]; push_cast; omega, by omega, ?_, hm⟩
          have p8 := (mayB_true hm).1
          unfold outB
          rw [if_pos hm, hrow, show (8 : Int) = ((8 : Nat) : Int) from rfl, putL_low (k := 8) (by omega) (by rw [show (8 : Int) = ((8 : Nat) : Int) from rfl] at p8; omega), show ((8 : Nat) : Int) = (8 : Int) from rfl, hVN]
          have q8 := low_num ((l.drop i).take 8)
          have e8 : ((l.drop i).take 8).length = 8 := by simp; omega
          rw [e8] at q8
          rw [q8, List.take_add, List.drop_drop]
      · rw [if_pos hR] at hG; exact absurd hG hR
    · rw [if_pos hV] at hG; exact absurd hG hV
  · rw [otT_bad hG] at h; exact absurd h hG
theorem ls_got {α : Type} (f : Int → α × Int × Int) (enc : α → List UInt8) (l : List UInt8) (hf : ∀ p, (f p).2.2 = 0 → ∃ i k : Nat, p = (i : Int) ∧ (f p).2.1 = ((i + k : Nat) : Int) ∧ i + k ≤ l.length ∧ enc (f p).1 = (l.drop i).take k) (n : Nat) : ∀ (i : Nat), i ≤ l.length → (lsT f n (i : Int)).2.2 = 0 → ∃ k : Nat, (lsT f n (i : Int)).2.1 = ((i + k : Nat) : Int) ∧ i + k ≤ l.length ∧ ((lsT f n (i : Int)).1.map enc).flatten = (l.drop i).take k ∧ (lsT f n (i : Int)).1.length = n := by
  induction n with
  | zero => intro i hi _; exact ⟨0, by simp [lsT], hi, by simp [lsT], rfl⟩
  | succ n ih =>
    intro i hi h
    by_cases h1 : (f (i : Int)).2.2 = 0
    · obtain ⟨i', k, hii, hk, hik, he⟩ := hf _ h1
      obtain rfl : i = i' := by omega
      by_cases h2 : (lsT f n (f (i : Int)).2.1).2.2 = 0
      · have e : lsT f (n + 1) (i : Int) = ((f (i : Int)).1 :: (lsT f n (f (i : Int)).2.1).1, (lsT f n (f (i : Int)).2.1).2.1, 0) := by simp [lsT, h1, h2]
        rw [hk] at h2 e
        obtain ⟨k', a1, a2, a3, a4⟩ := ih (i + k) hik h2
        rw [e]
        dsimp only
        refine ⟨k + k', by rw [a1]; push_cast; omega, by omega, ?_, by rw [List.length_cons, a4]⟩
        rw [List.map_cons, List.flatten_cons, he, a3, List.take_add, List.drop_drop]
      · have : (lsT f (n + 1) (i : Int)).2.2 = (lsT f n (f (i : Int)).2.1).2.2 := by simp [lsT, h1, h2]
        rw [this] at h
        exact absurd h h2
    · have : (lsT f (n + 1) (i : Int)).2.2 = (f (i : Int)).2.2 := by simp [lsT, h1]
      rw [this] at h
      exact absurd h h1
theorem cn_got {l : List UInt8} {p : Int} (h : (cnT l p 16).2.2 = 0) : ∃ i k : Nat, p = (i : Int) ∧ (cnT l p 16).2.1 = ((i + k : Nat) : Int) ∧ i + k ≤ l.length ∧ countL (cnT l p 16).1 = (l.drop i).take k ∧ (cnT l p 16).1 ≤ 16 := by
  have hm := cnT_most l p 16
  unfold cnT at h hm ⊢
  by_cases h1 : (gc l p).2.2 = 0
  · rw [if_neg (by simp [h1])] at h hm ⊢
    by_cases h2 : 16 < (gc l p).1
    · rw [if_pos h2] at h; cases h
    · rw [if_neg h2] at h hm ⊢
      have hg : gc l p = ((gc l p).1, (gc l p).2.1, 0) := by rw [← h1]
      obtain ⟨i, k, a1, a2, -, a3, a4⟩ := gc_got hg
      exact ⟨i, k, a1, a2, a3, a4, hm⟩
  · rw [if_pos h1] at h; exact absurd h h1
/-- What is got is put as the same bytes. -/
theorem tx_got {l : List UInt8} {at_ : Int} (h : (tgT l at_).2.2 = 0) : mayT (tgT l at_).1 = true ∧ ∃ i k : Nat, at_ = (i : Int) ∧ (tgT l at_).2.1 = ((i + k : Nat) : Int) ∧ i + k ≤ l.length ∧ k ≤ 8000 ∧ txB (tgT l at_).1 = (l.drop i).take k := by
  rcases hT : lsO (inT l) (cnT l at_ 16) with ⟨TL, TP, TE⟩
  by_cases hE : TE = 0
  · subst hE
    rcases hU : lsO (otT l) (cnT l TP 16) with ⟨UL, UP, UE⟩
    by_cases hE2 : UE = 0
    · subst hE2
      by_cases h3 : getE l.length UP 4 = 0
      · by_cases hx : 8000 < UP + 4 - at_
        · rw [tg_d hT hU h3 hx] at h; cases h
        · rw [tg_e hT hU h3 hx]
          dsimp only
          obtain ⟨c1, d1⟩ := lsO_c (f := inT l) (c := cnT l at_ 16) (by rw [hT])
          obtain ⟨i, k1, rfl, hk1, hl1, hc1, hm1⟩ := cn_got c1
          rw [d1, hk1] at hT
          obtain ⟨k2, b1, b2, b3, b4⟩ := ls_got (inT l) inB l (fun p hp => in_got hp) _ (i + k1) hl1 (by rw [hT])
          have g1 := lsT_all (f := inT l) (Pr := fun a => a.u.length ≤ 3000) (inT_u l) (cnT l (i : Int) 16).1 ((i + k1 : Nat) : Int)
          rw [hT] at b1 b3 b4 g1
          dsimp only at b1 b3 b4 g1
          subst b1
          obtain ⟨c2, d2⟩ := lsO_c (f := otT l) (c := cnT l ((i + k1 + k2 : Nat) : Int) 16) (by rw [hU])
          obtain ⟨i2, k3, hi2, hk3, hl3, hc3, hm3⟩ := cn_got c2
          obtain rfl : i2 = i + k1 + k2 := by omega
          rw [d2, hk3] at hU
          obtain ⟨k4, f1, f2, f3, f4⟩ := ls_got (otT l) (fun o => outB o.v o.l) l (fun p hp => by obtain ⟨i, k, a, b, c, d, -⟩ := out_got hp; exact ⟨i, k, a, b, c, d⟩) _ (i + k1 + k2 + k3) hl3 (by rw [hU])
          have g2 : ∀ (n : Nat) (p : Int), (lsT (otT l) n p).2.2 = 0 → ∀ a ∈ (lsT (otT l) n p).1, mayB a.v a.l.length = true := by
            intro n
            induction n with
            | zero => intro p _ a ha; simp [lsT] at ha
            | succ n ih =>
              intro p hp a ha
              by_cases q1 : (otT l p).2.2 = 0
              · by_cases q2 : (lsT (otT l) n (otT l p).2.1).2.2 = 0
                · have e : lsT (otT l) (n + 1) p = ((otT l p).1 :: (lsT (otT l) n (otT l p).2.1).1, (lsT (otT l) n (otT l p).2.1).2.1, 0) := by simp [lsT, q1, q2]
                  rw [e] at ha
                  rcases List.mem_cons.1 ha with rfl | ha
                  · obtain ⟨_, _, _, _, _, _, r⟩ := out_got q1; exact r
                  · exact ih _ q2 a ha
                · have : (lsT (otT l) (n + 1) p).2.2 = (lsT (otT l) n (otT l p).2.1).2.2 := by simp [lsT, q1, q2]
                  rw [this] at hp
                  exact absurd hp q2
              · have : (lsT (otT l) (n + 1) p).2.2 = (otT l p).2.2 := by simp [lsT, q1]
                rw [this] at hp
                exact absurd hp q1
          have g3 := g2 _ _ (show (lsT (otT l) (cnT l ((i + k1 + k2 : Nat) : Int) 16).1 ((i + k1 + k2 + k3 : Nat) : Int)).2.2 = 0 by rw [hU])
          rw [hU] at f1 f3 f4 g3
          dsimp only at f1 f3 f4 g3
          subst f1
          clear g2
          obtain ⟨-, hp1, -⟩ := getE_ok h3
          have hA : getN l ((i + k1 + k2 + k3 + k4 : Nat) : Int) 4 = num ((l.drop (i + k1 + k2 + k3 + k4)).take 4) := (get_at (l := l) (i := i + k1 + k2 + k3 + k4) (m := 4) (by omega) (by omega)).2
          have q4 := low_num ((l.drop (i + k1 + k2 + k3 + k4)).take 4)
          have e4 : ((l.drop (i + k1 + k2 + k3 + k4)).take 4).length = 4 := by simp; omega
          have p4 := num_lt ((l.drop (i + k1 + k2 + k3 + k4)).take 4)
          rw [e4] at q4 p4
          have hB : txB ⟨TL, UL, getN l ((i + k1 + k2 + k3 + k4 : Nat) : Int) 4⟩ = (l.drop i).take (k1 + k2 + k3 + k4 + 4) := by
            unfold txB midB preB insB outsB
            dsimp only
            rw [b4, f4, hc1, hc3, b3, f3, hA, show (4 : Int) = ((4 : Nat) : Int) from rfl, putL_low (k := 4) (by omega) (by omega), q4]
            rw [List.take_add (i := k1 + k2 + k3 + k4), List.take_add (i := k1 + k2 + k3), List.take_add (i := k1 + k2), List.take_add (i := k1), List.drop_drop, List.drop_drop, List.drop_drop, List.drop_drop]
            simp only [Nat.add_assoc]
          have hk : ((l.drop i).take (k1 + k2 + k3 + k4 + 4)).length = k1 + k2 + k3 + k4 + 4 := by simp; omega
          refine ⟨mayT_of (by dsimp only; omega) (by dsimp only; omega) g1 g3 (by rw [hB, hk]; omega), i, k1 + k2 + k3 + k4 + 4, rfl, by push_cast; omega, by omega, by omega, hB⟩
      · rw [tg_c hT hU rfl h3] at h; exact absurd h h3
    · rw [tg_b hT (by rw [hU]) hE2] at h; exact absurd h hE2
  · rw [tg_a (by rw [hT]) hE] at h; exact absurd h hE
end Go.Proofs.YtpijehaciomkhaaDoor
