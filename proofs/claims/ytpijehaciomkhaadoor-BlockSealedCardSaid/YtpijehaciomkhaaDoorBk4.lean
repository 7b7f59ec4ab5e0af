/- LAYER 10: Put of the program. -/
import Derived.Test.YtpijehaciomkhaaDoorBg
import Derived.Test.YtpijehaciomkhaaDoorTb
namespace Go.Proofs.YtpijehaciomkhaaDoor
open Go Go.RowKit
set_option linter.unusedVariables false
set_option linter.unusedSimpArgs false
set_option linter.unusedVariables false
set_option linter.unusedSimpArgs false

theorem bp_no {B : Blk} (h : blM B = false) : bpE B = 2 ∧ bpT B = [] := by unfold bpE bpT; simp [h]
theorem bp_yes {B : Blk} (h : blM B = true) : bpE B = 0 ∧ bpT B = blB B := by unfold bpE bpT; simp [h]
theorem blM_list {B : Blk} (h : lisT B.txs = false) : blM B = false := by unfold blM; simp [h]
theorem blM_dec {B : Blk} (h : lisT B.txs = true) : blM B = decide ((blB B).length ≤ 20000) := by unfold blM; simp [h]
theorem up64 {n : Nat} (h : n ≤ 1000) : IntKind.u64.wrap (n : Int) = (n : Int) := by rw [IntKind.wrap_u64, Int.emod_eq_of_lt (by omega) (by omega)]
theorem blB_len {B : Blk} (h : lisT B.txs = true) (H : HOk B.p B.r B.t B.b B.n) : (blB B).length ≤ 128100 ∧ (txsB B.txs).length ≤ 128000 := by
  obtain ⟨h1, h2, h3⟩ := lisT_parts h
  have a1 := txsB_len B.txs h3
  have a2 := countL_le B.txs.length
  have a3 := hdB_length B.p B.r B.t B.b B.n H.p H.r
  unfold blB
  rw [List.length_append, List.length_append]
  constructor <;> omega
set_option maxRecDepth 100000 in
set_option maxHeartbeats 8000000 in
theorem bput_any (tv : Value) (B : Blk) (w : World) (h : BlAt w tv B) (hg : EIs w) :
    Calls Tryd.prog 8 #[.agg (blc B tv)] w fun e w' => ∃ v, e = .returned (.tuple #[v, .int .i64 (bpE B)]) ∧ Own w.heap.size w' v (bpT B) ∧ Nx w w' := by
  have HX := Lib.hid h.x
  have HO := Lib.hid h.h
  have HG := Lib.hid hg
  obtain ⟨A, c, rfl, -⟩ := h.x.elem
  have HLD : Hid (∀ W, Nx (w.alloc (.cells (blc B (.slice A B.txs.length c)) 29)) W → ∀ j v, (hdc B.p B.r B.t B.b B.n)[j]? = some v → W.cell? ⟨w.heap.size, 0 + j, none⟩ = some v) := Lib.hid (fun W x j v hv => by
    rw [Nat.zero_add]; exact ((Row.new w (blc B (.slice A B.txs.length c)) 29 _ rfl).nx x).cell (blc_h _ _ _ _ hv))
  have k67 := (Row.new w (blc B (.slice A B.txs.length c)) 29 _ rfl).cell (blc_v B (.slice A B.txs.length c) h.h)
  have N0 := Lib.hid ((Nx.refl w).alloc (.cells (blc B (.slice A B.txs.length c)) 29))
  have HE := Lib.hid (fun w h => eachPut_any (.slice A B.txs.length c) B.txs w h)
  have HD := Lib.hid (fun w => hput_any B.p B.r B.t B.b B.n h.h.p h.h.r h.h.t h.h.b h.h.n w)
  have hsz := Lib.hid (headsz B.p B.r B.t B.b B.n h.h.p h.h.r)
  have HLEN := Lib.hid (fun hl => blB_len (B := B) hl h.h)
  have HNO := Lib.hid (fun hl => bp_no (blM_list (B := B) hl))
  clear h hg
  go_enter Tryd.func8, Tryd.ntmps8
  go_wp2_with fail
  refine (HE.out _ (HX.out.nx N0.out)).mono ?_
  rintro e w1 ⟨v, ev, rfl, n1, hc⟩
  have N1 := Lib.hid (N0.out.trans n1)
  have HLD1 := Lib.hid (HLD.out w1 n1)
  clear n1 HE k67 HLD
  rcases hc with ⟨hl, rfl, g, vs, rfl, hR, hV⟩ | ⟨hl, rfl, he⟩
  · obtain ⟨l1, l2, -⟩ := lisT_parts hl
    have HCA : Hid (CatAt (.slice (some ⟨g, 0, none⟩) B.txs.length B.txs.length) (B.txs.map txB) w1) := Lib.hid ⟨g, vs, by rw [List.length_map], hR, hV⟩
    have kw := up64 (n := B.txs.length) (by omega)
    have HB := Lib.hid (HLEN.out hl)
    have HC1 : Hid (∀ (wr : World), CatAt (.slice (some ⟨g, 0, none⟩) B.txs.length B.txs.length) (B.txs.map txB) wr → w.heap.size ≤ wr.heap.size → Calls Tryd.prog 15 #[.slice (some ⟨g, 0, none⟩) B.txs.length B.txs.length] wr fun e w' => ∃ v, e = .returned v ∧ Own w.heap.size w' v (txsB B.txs) ∧ Nx wr w') := Lib.hid fun wr h hB =>
      concat_at wr h (by rw [List.length_map]; omega) (by have := HB.out.2; unfold txsB at this; omega) _ hB
    have HC2 : Hid (∀ (wr : World) (x : Value), CatAt x [hdB B.p B.r B.t B.b B.n, countL B.txs.length, txsB B.txs] wr → w.heap.size ≤ wr.heap.size → Calls Tryd.prog 15 #[x] wr fun e w' => ∃ v, e = .returned v ∧ Own w.heap.size w' v (blB B) ∧ Nx wr w') := Lib.hid fun wr x h hB => by
      have := concat_at wr h (by simp) (by have := HB.out.1; unfold blB at this; simp only [List.flatten_cons, List.flatten_nil, List.append_nil] at this ⊢; omega) _ hB
      simpa only [List.flatten_cons, List.flatten_nil, List.append_nil, blB] using this
    have HM := Lib.hid (blM_dec hl)
    have HYES := Lib.hid (fun h => bp_yes (B := B) h)
    have HNO2 := Lib.hid (fun h => bp_no (B := B) h)
    have HBL : Hid ((blB B).length ≤ 128100) := Lib.hid HB.out.1
    clear hl hR hV l1 l2 HB HLEN HNO
    go_wp2_with (first | (refine wpList_load_at rfl 26 (.tmp 17) rfl w.heap.size 0 rfl (hdc B.p B.r B.t B.b B.n) _ HLD1.out Tryd.underlying26 rfl hsz.out ?_))
    refine (HD.out _).mono ?_
    rintro e w2 ⟨va, rfl, oa, n2⟩
    have N2 := Lib.hid (N1.out.trans n2)
    have CA2 := Lib.hid (show CatAt _ _ w2 from by obtain ⟨g', vs', e, h1, h2⟩ := HCA.out; exact ⟨g', vs', e, Row.nx h1 n2, h2.nx n2⟩)
    have OA := Lib.hid oa
    clear n2 oa N1 HCA HLD1 HD hsz
    go_wp2_with fail
    refine (count_any _ _).mono ?_
    rintro e w3 ⟨vb, rfl, ob, n3⟩
    have N3 := Lib.hid (N2.out.trans n3)
    have CA3 := Lib.hid (show CatAt _ _ w3 from by obtain ⟨g', vs', e, h1, h2⟩ := CA2.out; exact ⟨g', vs', e, Row.nx h1 n3, h2.nx n3⟩)
    have OA3 := Lib.hid (OA.out.nx n3)
    have OB := Lib.hid ob
    clear n3 ob N2 CA2 OA
    go_wp2_with fail
    refine (HC1.out w3 CA3.out N3.out.size).mono ?_
    rintro e w4 ⟨vc, rfl, oc, n4⟩
    have N4 := Lib.hid (N3.out.trans n4)
    have RA := OA3.out.rd.nx n4
    have RBB := OB.out.rd.nx n4
    have RC := oc.rd
    obtain ⟨A1, d1, rfl, -⟩ := OA3.out.rd
    obtain ⟨A2, d2, rfl, -⟩ := OB.out.rd
    obtain ⟨A3, d3, rfl, -⟩ := oc.rd
    have CAT := Lib.hid (catAt3 RA RBB RC)
    have NA := Lib.hid (N4.out.alloc (.cells #[.slice A1 (hdB B.p B.r B.t B.b B.n).length d1, .slice A2 (countL B.txs.length).length d2, .slice A3 (txsB B.txs).length d3] 43))
    clear n4 oc RA RBB RC N3 CA3 OA3 OB HC1 kw
    go_wp2_with fail
    refine (HC2.out _ _ CAT.out NA.out.size).mono ?_
    rintro e w5 ⟨vd, rfl, od, n5⟩
    have N5 := Lib.hid (NA.out.trans n5)
    obtain ⟨A5, c5, rfl, -⟩ := od.rd
    have OD := Lib.hid od
    clear n5 od NA CAT HC2 N4
    by_cases hle : (blB B).length ≤ 20000
    · obtain ⟨y1, y2⟩ := HYES.out (by rw [HM.out]; exact decide_eq_true hle)
      replace y1 := Lib.hid y1
      replace y2 := Lib.hid y2
      clear HYES HNO2 HM
      have hd : ¬ (20000 : Int) < ((blB B).length : Int) := by omega
      clear hle
      go_wp2_with fail
      go_ret2
      exact ⟨.slice A5 (blB B).length c5, by rw [y1.out]; rfl, by rw [y2.out]; exact OD.out, N5.out⟩
    · obtain ⟨y1, y2⟩ := HNO2.out (by rw [HM.out]; exact decide_eq_false hle)
      replace y1 := Lib.hid y1
      replace y2 := Lib.hid y2
      clear HYES HNO2 HM
      have hd : (20000 : Int) < ((blB B).length : Int) := by omega
      clear hle
      go_wp2_with fail
      go_ret2
      exact ⟨.slice none 0 0, by rw [y1.out]; rfl, by rw [y2.out]; exact Own.nil _ _, N5.out⟩
  · obtain ⟨y1, y2⟩ := HNO.out hl
    replace y1 := Lib.hid y1
    replace y2 := Lib.hid y2
    clear HNO hl HLD1 HLEN HD hsz
    have HNU := Lib.hid (fun w h => bnumber_any ev 2 w he h)
    have G1 := Lib.hid (HG.out.nx N1.out)
    rcases he with rfl | ⟨i, rfl⟩
    all_goals
      go_wp2_with fail
      refine (HNU.out _ G1.out).mono ?_
      rintro e w2 ⟨rfl, n2⟩
      have N2 := Lib.hid (N1.out.trans n2)
      clear n2
      go_wp2_with fail
      go_ret2
      exact ⟨.slice none 0 0, by rw [y1.out]; rfl, by rw [y2.out]; exact Own.nil _ _, N2.out⟩
end Go.Proofs.YtpijehaciomkhaaDoor
