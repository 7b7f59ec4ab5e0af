/- OPENING BLOCKS THAT CAME IN, of our own. -/
import Derived.Test.YtpijehaciomkhaaDoorOpenTx
import Derived.Test.YtpijehaciomkhaaDoorBf
namespace Go.Proofs.YtpijehaciomkhaaDoor
open Go Go.ChangeShapes Go.WideShapes Go.ChangeAt Go.RowKit
set_option linter.unusedVariables false
set_option linter.unusedSimpArgs false
set_option linter.unusedVariables false
set_option linter.unusedSimpArgs false

section
variable {H : Type} {enc : TypeId × Value → H} {W : World} {base : Nat}
theorem cells_u8h : Tryd.prog.cellsOf 5 = 1 := by kernel_rfl
theorem cells_hashh : Tryd.prog.cellsOf 23 = 32 := by kernel_rfl
theorem cells_u32h : Tryd.prog.cellsOf 24 = 1 := by kernel_rfl
theorem cells_head : Tryd.prog.cellsOf 26 = 67 := by kernel_rfl
theorem nat_of_wfh {n : Int} {m : Int} (h : 0 ≤ n ∧ n ≤ m) : ∃ k : Nat, n = (k : Int) ∧ (k : Int) ≤ m := ⟨n.toNat, by omega, by omega⟩
theorem trod_struct5 {P : Program} {t : TypeId} {f0 f1 f2 f3 f4 : Field} {fuel : Nat} {cs : List Value} {x : DataW H × List MemPlace} {spare : Nat → Bool} {held : Bool} (ht : P.underlying t = some (.struct #[f0, f1, f2, f3, f4])) (h : DataW.trod enc P W base spare held fuel t cs = some x) :
    ∃ y0 y1 y2 y3 y4 n, x = (.agg [y0.1, y1.1, y2.1, y3.1, y4.1], y0.2 ++ (y1.2 ++ (y2.2 ++ (y3.2 ++ y4.2)))) ∧ cs.length = P.cellsOf t ∧ DataW.trod enc P W base spare held n f0.type ((cs.drop f0.offset).take (P.cellsOf f0.type)) = some y0 ∧
      DataW.trod enc P W base spare held n f1.type ((cs.drop f1.offset).take (P.cellsOf f1.type)) = some y1 ∧ DataW.trod enc P W base spare held n f2.type ((cs.drop f2.offset).take (P.cellsOf f2.type)) = some y2 ∧
      DataW.trod enc P W base spare held n f3.type ((cs.drop f3.offset).take (P.cellsOf f3.type)) = some y3 ∧ DataW.trod enc P W base spare held n f4.type ((cs.drop f4.offset).take (P.cellsOf f4.type)) = some y4 := by
  obtain ⟨xs, n, _, rfl, hl, hlen, hf⟩ := DataW.trod_struct ht h
  match xs, hlen with
  | [y0, y1, y2, y3, y4], _ => exact ⟨y0, y1, y2, y3, y4, n, by simp, hl, by simpa using hf 0 f0 rfl, by simpa using hf 1 f1 rfl, by simpa using hf 2 f2 rfl, by simpa using hf 3 f3 rfl, by simpa using hf 4 f4 rfl⟩
set_option maxRecDepth 100000 in
theorem head_cells {fuel : Nat} {cs : List Value} {x : DataW H × List MemPlace} {spare : Nat → Bool} {held : Bool} (h : DataW.trod enc Tryd.prog W base spare held fuel 26 cs = some x) :
    ∃ (p r : List UInt8) (t b n : Nat), cs = hdl p r t b n ∧ p.length = 32 ∧ r.length = 32 ∧ t < 4294967296 ∧ b < 4294967296 ∧ n < 4294967296 := by
  obtain ⟨y0, y1, y2, y3, y4, m, -, hl, h0, h1, h2, h3, h4⟩ := trod_struct5 Tryd.underlying26 h
  dsimp only at h0 h1 h2 h3 h4
  rw [cells_hashh] at h0 h1
  rw [cells_u32h] at h2 h3 h4
  rw [cells_head] at hl
  obtain ⟨zs, hz, e0, -, hw⟩ := cells_ints Tryd.underlying23 Tryd.underlying5 cells_u8h cells_hashh h0
  obtain ⟨ys, hy, e1, -, hv⟩ := cells_ints Tryd.underlying23 Tryd.underlying5 cells_u8h cells_hashh h1
  obtain ⟨a, e2, -, w2⟩ := DataW.trod_int Tryd.underlying24 h2
  obtain ⟨c, e3, -, w3⟩ := DataW.trod_int Tryd.underlying24 h3
  obtain ⟨d, e4, -, w4⟩ := DataW.trod_int Tryd.underlying24 h4
  obtain ⟨l, hl1, el⟩ := bytes_of_ints zs hw
  obtain ⟨q, hq1, eq⟩ := bytes_of_ints ys hv
  obtain ⟨t, rfl, ht⟩ := nat_of_wfh (wf_u32 w2)
  obtain ⟨b, rfl, hb⟩ := nat_of_wfh (wf_u32 w3)
  obtain ⟨n, rfl, hn⟩ := nat_of_wfh (wf_u32 w4)
  refine ⟨l, q, t, b, n, ?_, by omega, by omega, by omega, by omega, by omega⟩
  have hc := cut_next cs 0 32
  rw [e0, el, Nat.zero_add, cut_next cs 32 32, e1, eq, cut_next cs 64 1, e2, cut_next cs 65 1, e3, cut_next cs 66 1, e4, cut_end cs 67 hl] at hc
  simpa [hdl] using hc
theorem cells_txs : Tryd.prog.cellsOf 27 = 1 := by kernel_rfl
theorem cells_block : Tryd.prog.cellsOf 29 = 68 := by kernel_rfl
theorem open_tx_cells (n : Nat) (cs : List Value) (y : DataW H × List MemPlace) (hf : DataW.trod enc Tryd.prog W base (fun _ => true) true n 39 cs = some y) (hs : ∀ q ∈ y.1.weights Tryd.prog 39, q ≤ reachBytes) :
    ∃ a : Txn, (txE noF).rd none W cs a ∧ True := by
  obtain ⟨y0, y1, y2, m, hx, hl, h0, h1, h2⟩ := Go.Deep.trod_struct3 Tryd.underlying39 hf
  rw [hx] at hs
  dsimp only at h0 h1 h2 hs
  rw [cells_ins] at h0
  rw [cells_outs] at h1
  rw [cells_u32] at h2
  rw [cells_tx] at hl
  obtain ⟨A, n, c, es, e0, rfl, r0, g0⟩ := open_els_cells inEl GoodI Tryd.underlying36 cells_in open_in_cells h0 (sized_field Tryd.underlying39 hs (j := 0) rfl rfl)
  obtain ⟨B, m', d', us, e1, rfl, r1, g1⟩ := open_els_cells outEl GoodO Tryd.underlying37 cells_out open_out_cells h1 (sized_field Tryd.underlying39 hs (j := 1) rfl rfl)
  obtain ⟨a, e2, -, w2⟩ := DataW.trod_int Tryd.underlying24 h2
  obtain ⟨k, rfl, hk⟩ := nat_of_wf (wf_u32 w2)
  have hk2 : k < 4294967296 := by omega
  have hT : TxAt W (.slice A es.length c) (.slice B us.length d') ⟨es, us, k⟩ := ⟨r0, r1, hk2, g0, g1⟩
  clear r0 r1 g0 g1 h0 h1 h2
  have hR : (txE noF).rd none W (tcl (.slice A es.length c) (.slice B us.length d') k) ⟨es, us, k⟩ := txE_of hT
  refine ⟨⟨es, us, k⟩, ?_, trivial⟩
  have e : cs = tcl (.slice A es.length c) (.slice B us.length d') k := ?_
  · rw [e]; exact hR
  have hc := cut_next cs 0 1
  rw [e0, Nat.zero_add, cut_next cs 1 1, e1, cut_next cs 2 1, e2, cut_end cs 3 hl] at hc
  simpa [tcl] using hc
set_option maxRecDepth 100000 in
theorem open_block {ts : List TypeId} {ds : List (DataW H)} {j : Nat} {b0 : Nat} {r : Reach} {v : Value} {d : DataW H} {p : List MemPlace} (hv : Value.okWide Tryd.prog W r b0 29 v)
    (h : DataW.Trod enc Tryd.prog W base (fun _ => true) true 29 v d p) (hsz : (DataW.weightsEach Tryd.prog ts ds).all (· ≤ reachBytes) = true) (hts : ts[j]? = some 29) (hds : ds[j]? = some d) :
    ∃ (tv : Value) (B : Blk), v = .agg (blc B tv) ∧ BlAt W tv B := by
  have hs := sized_top hsz hts hds
  obtain ⟨cs, rfl, -⟩ := okWide_struct Tryd.underlying29 hv
  obtain ⟨fuel, hf⟩ := h
  obtain ⟨y0, y1, m, hx, hl, h0, h1⟩ := trod_struct2 Tryd.underlying29 hf
  simp only [Prod.mk.injEq] at hx
  rw [hx.1] at hs
  dsimp only at h0 h1
  rw [cells_head] at h0
  rw [cells_txs] at h1
  rw [cells_block] at hl
  obtain ⟨q, s, t, b, n, e0, a1, a2, a3, a4, a5⟩ := head_cells h0
  obtain ⟨A, k, c, es, e1, rfl, r1, -⟩ := open_els_cells (txE noF) (fun _ => True) Tryd.underlying27 cells_tx open_tx_cells h1 (sized_field Tryd.underlying29 hs (j := 1) rfl rfl)
  refine ⟨.slice A es.length c, ⟨q, s, t, b, n, es⟩, ?_, ⟨⟨a1, a2, a3, a4, a5⟩, r1⟩⟩
  have hl' : cs.toList.length = 68 := by simpa [Value.cells] using hl
  have hc := cut_next cs.toList 0 67
  simp only [Value.cells] at e0 e1
  rw [e0, Nat.zero_add, cut_next cs.toList 67 1, e1, cut_end cs.toList 68 hl'] at hc
  have hc : cs.toList = hdl q s t b n ++ [.slice A es.length c] := by simpa using hc
  unfold blc
  rw [← hc]
end
end Go.Proofs.YtpijehaciomkhaaDoor
