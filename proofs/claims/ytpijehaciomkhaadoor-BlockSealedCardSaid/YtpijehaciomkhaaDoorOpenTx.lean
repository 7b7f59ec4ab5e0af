/- OPENING TRANSACTIONS AND COINS THAT CAME IN, of our own. -/
import Derived.Test.YtpijehaciomkhaaDoorTi
import Derived.Test.YtpijehaciomkhaaDoorTq
import Derived.Test.YtpijehaciomkhaaDoorArr
import Derived.Lib.SmallJoins
namespace Go.Proofs.YtpijehaciomkhaaDoor
open Go Go.ChangeShapes Go.WideShapes Go.ChangeAt Go.RowKit
set_option linter.unusedVariables false
set_option linter.unusedSimpArgs false
set_option linter.unusedVariables false
set_option linter.unusedSimpArgs false

section
variable {H : Type} {enc : TypeId × Value → H} {W : World} {base : Nat}
theorem cells_u8o : Tryd.prog.cellsOf 5 = 1 := by kernel_rfl
theorem bytes_u8o : Tryd.prog.bytesOf 5 = 1 := by kernel_rfl
theorem cells_hash : Tryd.prog.cellsOf 23 = 32 := by kernel_rfl
theorem cells_u16 : Tryd.prog.cellsOf 40 = 1 := by kernel_rfl
theorem cells_u32 : Tryd.prog.cellsOf 24 = 1 := by kernel_rfl
theorem cells_u64 : Tryd.prog.cellsOf 46 = 1 := by kernel_rfl
theorem cells_bool : Tryd.prog.cellsOf 4 = 1 := by kernel_rfl
theorem cells_bytes : Tryd.prog.cellsOf 43 = 1 := by kernel_rfl
theorem cells_point : Tryd.prog.cellsOf 42 = 34 := by kernel_rfl
theorem cells_out : Tryd.prog.cellsOf 48 = 2 := by kernel_rfl
theorem cells_in : Tryd.prog.cellsOf 45 = 35 := by kernel_rfl
theorem cells_ins : Tryd.prog.cellsOf 36 = 1 := by kernel_rfl
theorem cells_outs : Tryd.prog.cellsOf 37 = 1 := by kernel_rfl
theorem cells_tx : Tryd.prog.cellsOf 39 = 3 := by kernel_rfl

theorem nat_of_wf {n : Int} {m : Int} (h : 0 ≤ n ∧ n ≤ m) : ∃ k : Nat, n = (k : Int) ∧ (k : Int) ≤ m := ⟨n.toNat, by omega, by omega⟩
theorem wf_u16 {n : Int} (h : (Lit.int .u16 n).wf = true) : 0 ≤ n ∧ n ≤ 65535 := by
  simpa [Lit.wf, IntKind.min, IntKind.max, IntKind.signed, IntKind.bits] using h

theorem point_cells {fuel : Nat} {cs : List Value} {x : DataW H × List MemPlace} {spare : Nat → Bool} {held : Bool} (h : DataW.trod enc Tryd.prog W base spare held fuel 42 cs = some x) :
    ∃ (tx : List UInt8) (n h : Nat), cs = pcl tx n h ∧ tx.length = 32 ∧ n < 65536 ∧ h < 4294967296 := by
  obtain ⟨y0, y1, y2, m, -, hl, h0, h1, h2⟩ := Go.Deep.trod_struct3 Tryd.underlying42 h
  dsimp only at h0 h1 h2
  rw [cells_hash] at h0
  rw [cells_u16] at h1
  rw [cells_u32] at h2
  rw [cells_point] at hl
  obtain ⟨zs, hz, e0, -, hw⟩ := cells_ints Tryd.underlying23 Tryd.underlying5 cells_u8o cells_hash h0
  obtain ⟨a, e1, -, w1⟩ := DataW.trod_int Tryd.underlying40 h1
  obtain ⟨b, e2, -, w2⟩ := DataW.trod_int Tryd.underlying24 h2
  obtain ⟨l, hl1, el⟩ := bytes_of_ints zs hw
  obtain ⟨n, rfl, hn⟩ := nat_of_wf (wf_u16 w1)
  obtain ⟨k, rfl, hk⟩ := nat_of_wf (wf_u32 w2)
  refine ⟨l, n, k, ?_, by omega, by omega, by omega⟩
  have hc := cut_next cs 0 32
  rw [e0, el, Nat.zero_add, cut_next cs 32 1, e1, cut_next cs 33 1, e2, cut_end cs 34 hl] at hc
  simpa [pcl] using hc

def GoodI (i : Inp) : Prop := i.u.length ≤ 140737488351232
def GoodO (o : Outp) : Prop := o.l.length ≤ 140737488351232
theorem open_in_cells (n : Nat) (cs : List Value) (y : DataW H × List MemPlace) (hf : DataW.trod enc Tryd.prog W base (fun _ => true) true n 45 cs = some y) (hs : ∀ q ∈ y.1.weights Tryd.prog 45, q ≤ reachBytes) :
    ∃ a : Inp, inEl.rd none W cs a ∧ GoodI a := by
  obtain ⟨y0, y1, m, hx, hl, h0, h1⟩ := trod_struct2 Tryd.underlying45 hf
  rw [hx] at hs
  dsimp only at h0 h1 hs
  rw [cells_point] at h0
  rw [cells_bytes] at h1
  rw [cells_in] at hl
  obtain ⟨tx, k, hh, e0, g1, g2, g3⟩ := point_cells h0
  obtain ⟨A, l, c, e1, hr, hb⟩ := open_sl Tryd.underlying43 Tryd.underlying5 cells_u8o bytes_u8o h1 (sized_field Tryd.underlying45 hs (j := 1) rfl rfl)
  refine ⟨⟨tx, k, hh, l⟩, ⟨.slice A l.length c, ?_, ⟨g1, g2, g3⟩, hr, fun _ q hq => by cases hq⟩, hb⟩
  have hc := cut_next cs 0 34
  rw [e0, Nat.zero_add, cut_next cs 34 1, e1, cut_end cs 35 hl] at hc
  simpa [icl] using hc
theorem open_out_cells (n : Nat) (cs : List Value) (y : DataW H × List MemPlace) (hf : DataW.trod enc Tryd.prog W base (fun _ => true) true n 48 cs = some y) (hs : ∀ q ∈ y.1.weights Tryd.prog 48, q ≤ reachBytes) :
    ∃ a : Outp, outEl.rd none W cs a ∧ GoodO a := by
  obtain ⟨y0, y1, m, hx, hl, h0, h1⟩ := trod_struct2 Tryd.underlying48 hf
  rw [hx] at hs
  dsimp only at h0 h1 hs
  rw [cells_u64] at h0
  rw [cells_bytes] at h1
  rw [cells_out] at hl
  obtain ⟨a, e0, -, w0⟩ := DataW.trod_int Tryd.underlying46 h0
  obtain ⟨A, l, c, e1, hr, hb⟩ := open_sl Tryd.underlying43 Tryd.underlying5 cells_u8o bytes_u8o h1 (sized_field Tryd.underlying48 hs (j := 1) rfl rfl)
  obtain ⟨k, rfl, hk⟩ := nat_of_wf (wf_u64 w0)
  refine ⟨⟨k, l⟩, ⟨.slice A l.length c, ?_, by dsimp only; omega, hr, fun _ q hq => by cases hq⟩, hb⟩
  have hc := cut_next cs 0 1
  rw [e0, Nat.zero_add, cut_next cs 1 1, e1, cut_end cs 2 hl] at hc
  simpa using hc
set_option maxRecDepth 100000 in
theorem open_tx {ts : List TypeId} {ds : List (DataW H)} {j : Nat} {b0 : Nat} {r : Reach} {v : Value} {d : DataW H} {p : List MemPlace} (hv : Value.okWide Tryd.prog W r b0 39 v)
    (h : DataW.Trod enc Tryd.prog W base (fun _ => true) true 39 v d p) (hsz : (DataW.weightsEach Tryd.prog ts ds).all (· ≤ reachBytes) = true) (hts : ts[j]? = some 39) (hds : ds[j]? = some d) :
    ∃ (iv ov : Value) (t : Txn), v = .agg #[iv, ov, .int .u32 (t.after : Int)] ∧ TxAt W iv ov t := by
  have hs := sized_top hsz hts hds
  obtain ⟨cs, rfl, -⟩ := okWide_struct Tryd.underlying39 hv
  obtain ⟨fuel, hf⟩ := h
  obtain ⟨y0, y1, y2, m, hx, hl, h0, h1, h2⟩ := Go.Deep.trod_struct3 Tryd.underlying39 hf
  simp only [Prod.mk.injEq] at hx
  rw [hx.1] at hs
  dsimp only at h0 h1 h2
  rw [cells_ins] at h0
  rw [cells_outs] at h1
  rw [cells_u32] at h2
  rw [cells_tx] at hl
  obtain ⟨A, n, c, es, e0, rfl, r0, g0⟩ := open_els_cells inEl GoodI Tryd.underlying36 cells_in open_in_cells h0 (sized_field Tryd.underlying39 hs (j := 0) rfl rfl)
  obtain ⟨B, m', d', us, e1, rfl, r1, g1⟩ := open_els_cells outEl GoodO Tryd.underlying37 cells_out open_out_cells h1 (sized_field Tryd.underlying39 hs (j := 1) rfl rfl)
  obtain ⟨a, e2, -, w2⟩ := DataW.trod_int Tryd.underlying24 h2
  obtain ⟨k, rfl, hk⟩ := nat_of_wf (wf_u32 w2)
  refine ⟨.slice A es.length c, .slice B us.length d', ⟨es, us, k⟩, ?_, r0, r1, by dsimp only; omega, g0, g1⟩
  have hl' : cs.toList.length = 3 := by simpa [Value.cells] using hl
  have hc := cut_next cs.toList 0 1
  simp only [Value.cells] at e0 e1 e2
  rw [e0, Nat.zero_add, cut_next cs.toList 1 1, e1, cut_next cs.toList 2 1, e2, cut_end cs.toList 3 hl'] at hc
  have hc : cs.toList = [.slice A es.length c, .slice B us.length d', .int .u32 (k : Int)] := by simpa using hc
  obtain ⟨L⟩ := cs
  simp at hc
  rw [hc]
end
end Go.Proofs.YtpijehaciomkhaaDoor
