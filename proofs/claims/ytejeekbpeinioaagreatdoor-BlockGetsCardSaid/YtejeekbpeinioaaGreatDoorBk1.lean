/- LAYER 10: lists of transactions, and blocks, how they lie. -/
import Derived.Test.YtejeekbpeinioaaGreatDoorBkP
import Derived.Test.YtejeekbpeinioaaGreatDoorTr
namespace Go.Proofs.YtejeekbpeinioaaGreatDoor
open Go Go.RowKit
set_option linter.unusedVariables false
set_option linter.unusedSimpArgs false
set_option linter.unusedVariables false
set_option linter.unusedSimpArgs false

/-- What may have changed: blocks of F, and block s. -/
structure GrF (F : Nat → Prop) (s : Option Nat) (w W : World) : Prop where
  os : W.os = w.os
  tape : W.tape = w.tape
  output : W.output = w.output
  size : w.heap.size ≤ W.heap.size
  block : ∀ k, k < w.heap.size → ¬ F k → some k ≠ s → W.heap[k]? = w.heap[k]?
section
variable {F : Nat → Prop} {s : Option Nat} {w w' W : World}
theorem GrF.refl : GrF F s w w := ⟨rfl, rfl, rfl, Nat.le_refl _, fun _ _ _ _ => rfl⟩
theorem GrF.of_nx (h : Nx w W) : GrF F s w W := ⟨h.os, h.tape, h.output, h.size, fun k hk _ _ => h.block k hk⟩
theorem GrF.of_gr (h : w.grownBy W s) : GrF F s w W := ⟨h.os, h.tape, h.output, h.size, fun k hk _ hs => h.block k hk hs⟩
theorem GrF.trans (h : GrF F s w w') (k : GrF F s w' W) : GrF F s w W := ⟨k.os.trans h.os, k.tape.trans h.tape, k.output.trans h.output, Nat.le_trans h.size k.size, fun i hi hf hs => (k.block i (Nat.lt_of_lt_of_le hi h.size) hf hs).trans (h.block i hi hf hs)⟩
theorem GrF.widen (h : GrF F none w W) : GrF F s w W := ⟨h.os, h.tape, h.output, h.size, fun k hk hf _ => h.block k hk hf (by simp)⟩
theorem GrF.narrow (h : GrF F s w W) (hs : ∀ q, s = some q → w.heap.size ≤ q) : GrF F none w W := ⟨h.os, h.tape, h.output, h.size, fun k hk hf _ => h.block k hk hf (fun e => by have := hs k e.symm; omega)⟩
end
/-- No block. -/
def noF : Nat → Prop := fun _ => False
theorem GrF.nx {w W : World} (h : GrF noF none w W) : Nx w W := ⟨h.os, h.tape, h.output, h.size, fun k hk => h.block k hk id (by simp)⟩
theorem TxAt.slv {w : World} {iv ov : Value} {t : Txn} (h : TxAt w iv ov t) : ∃ A c A' c', iv = .slice A t.ins.length c ∧ ov = .slice A' t.outs.length c' := by
  obtain ⟨A, c, rfl, -⟩ := h.i.elem
  obtain ⟨B, d, rfl, -⟩ := h.o.elem
  exact ⟨A, c, B, d, rfl, rfl⟩
def tcl (iv ov : Value) (a : Nat) : List Value := [iv, ov, .int .u32 (a : Int)]
/-- Transactions as elements. -/
def txE (F : Nat → Prop) : El Txn where
  E := 54
  k := 3
  pos := by decide
  rd := fun s w cs t => ∃ iv ov, cs = tcl iv ov t.after ∧ ∀ W, GrF F s w W → TxAt W iv ov t
  len := by rintro s w cs a ⟨iv, ov, rfl, h⟩; rfl
  one := by
    rintro s w cs a ⟨iv, ov, rfl, h⟩ x hx
    obtain ⟨A, c, A', c', rfl, rfl⟩ := (h w GrF.refl).slv
    simp only [tcl, List.mem_cons, List.not_mem_nil, or_false] at hx
    rcases hx with rfl | rfl | rfl <;> rfl
  nx := by rintro s w w' cs a ⟨iv, ov, rfl, h⟩ x; exact ⟨iv, ov, rfl, fun W k => h W ((GrF.of_nx x).trans k)⟩
  grown := by rintro s w w' cs a ⟨iv, ov, rfl, h⟩ x; exact ⟨iv, ov, rfl, fun W k => h W ((GrF.of_gr x).trans k)⟩
  free := by rintro s w cs a ⟨iv, ov, rfl, h⟩; exact ⟨iv, ov, rfl, fun W k => h W k.widen⟩
  apart := by rintro s w cs a ⟨iv, ov, rfl, h⟩ hs; exact ⟨iv, ov, rfl, fun W k => h W (k.narrow hs)⟩
theorem txE_of {w : World} {iv ov : Value} {t : Txn} (h : TxAt w iv ov t) : (txE noF).rd none w (tcl iv ov t.after) t := ⟨iv, ov, rfl, fun W k => h.nx k.nx⟩
theorem txE_free {B : Nat} {F : Nat → Prop} {s : Option Nat} {w : World} {iv ov : Value} {t : Txn} (h : TxFree B w iv ov t) (hF : ∀ k, F k → k < B) (hs : ∀ q, s = some q → q < B) : (txE F).rd s w (tcl iv ov t.after) t :=
  ⟨iv, ov, rfl, fun W k => h.2 W ⟨k.os, k.tape, k.output, k.size, fun i hi hl => k.block i hl (fun f => by have := hF i f; omega) (fun e => by have := hs i e.symm; omega)⟩⟩
theorem TxFree.of_new {B : Nat} {w : World} {iv ov : Value} {t : Txn} (h : TxNew B w iv ov t) : TxFree B w iv ov t := by
  refine ⟨h.at, fun W x => ?_⟩
  obtain ⟨fs, h1, h2, h3⟩ := h.i
  obtain ⟨gs, g1, g2, g3⟩ := h.o
  refine ⟨⟨fs, ?_, h2.1, fun j hj => ?_⟩, ⟨gs, ?_, g2.1, fun j hj => ?_⟩, h.a, h.g⟩
  · obtain ⟨a0, a1, A, c, rfl, a2, a3, a4⟩ := h1
    refine ⟨a0, a1, A, c, rfl, a2, a3, fun hp => ?_⟩
    obtain ⟨b, o, rfl, hb, hc⟩ := a4 hp
    have := h3 hp b (by simp [Value.ownBlock])
    exact ⟨b, o, rfl, Nat.lt_of_lt_of_le hb x.size, fun j hj => by rw [x.cell (p := ⟨b, o + j, none⟩) this hb]; exact hc j hj⟩
  · obtain ⟨u, e, b, ho⟩ := h2.2 j hj
    exact ⟨u, e, b, x.rd ho.rd (fun hp q hq => ho.block q hq), fun _ q hq => by cases hq⟩
  · obtain ⟨a0, a1, A, c, rfl, a2, a3, a4⟩ := g1
    refine ⟨a0, a1, A, c, rfl, a2, a3, fun hp => ?_⟩
    obtain ⟨b, o, rfl, hb, hc⟩ := a4 hp
    have := g3 hp b (by simp [Value.ownBlock])
    exact ⟨b, o, rfl, Nat.lt_of_lt_of_le hb x.size, fun j hj => by rw [x.cell (p := ⟨b, o + j, none⟩) this hb]; exact hc j hj⟩
  · obtain ⟨u, e, b, ho⟩ := g2.2 j hj
    exact ⟨u, e, b, x.rd ho.rd (fun hp q hq => ho.block q hq), fun _ q hq => by cases hq⟩
theorem txsB_snocL (l : List Txn) (j : Nat) (hj : j < l.length) : (l.take (j + 1)).map txB = (l.take j).map txB ++ [txB l[j]] := by
  rw [List.take_succ_eq_append_getElem hj, List.map_append]
  rfl
/-- The cells of a block. -/
def blc (B : Blk) (tv : Value) : Array Value := (hdl B.p B.r B.t B.b B.n ++ [tv]).toArray
theorem hdl_length (p r : List UInt8) (t b n : Nat) (hp : p.length = 32) (hr : r.length = 32) : (hdl p r t b n).length = 67 := by simp [hdl, bvs, hp, hr]
theorem blc_size (B : Blk) (tv : Value) (H : HOk B.p B.r B.t B.b B.n) : (blc B tv).size = 68 := by simp [blc, hdl_length _ _ _ _ _ H.p H.r]
theorem blc_v (B : Blk) (tv : Value) (H : HOk B.p B.r B.t B.b B.n) : (blc B tv)[67]? = some tv := by
  simp [blc, hdl_length _ _ _ _ _ H.p H.r, List.getElem?_append_right]
theorem blc_h (B : Blk) (tv : Value) (j : Nat) (x : Value) (hj : (hdc B.p B.r B.t B.b B.n)[j]? = some x) : (blc B tv)[j]? = some x := by
  simp only [hdc, blc, List.getElem?_toArray] at *
  rw [List.getElem?_append_left (List.getElem?_eq_some_iff.1 hj).1]
  exact hj
theorem blc_one (B : Blk) (tv : Value) (h : tv.oneCell' = true) : (blc B tv).all (·.oneCell') = true := by
  rw [Array.all_eq_true']
  intro x hx
  simp only [blc, List.mem_toArray, List.mem_append, List.mem_singleton] at hx
  rcases hx with h1 | rfl
  · have := hd_one B.p B.r B.t B.b B.n
    rw [Array.all_eq_true'] at this
    exact this x (by simpa [hdc] using h1)
  · exact h
/-- A block lies here. -/
structure BlAt (w : World) (tv : Value) (B : Blk) : Prop where
  h : HOk B.p B.r B.t B.b B.n
  x : RdE (txE noF) w tv B.txs
theorem BlAt.nx {w w' : World} {tv : Value} {B : Blk} (h : BlAt w tv B) (k : Nx w w') : BlAt w' tv B := ⟨h.h, h.x.nx k⟩
theorem HOkZ : HOk Z32h Z32h 0 0 0 := ⟨Z32_lengthh, Z32_lengthh, by decide, by decide, by decide⟩
theorem blAt_z (w : World) : BlAt w (.slice none 0 0) blZ := ⟨HOkZ, RdE.nil _⟩
theorem BlAt.ok {w : World} {tv : Value} {B : Blk} (h : BlAt w tv B) : BlOk B := ⟨h.h, fun t ht => by
  obtain ⟨j, hj, rfl⟩ := List.getElem_of_mem ht
  obtain ⟨A, c, e, -, -, hel⟩ := h.x.elem
  obtain ⟨b, o, cs, -, -, ⟨iv, ov, -, hw⟩, -⟩ := hel j hj
  have := hw w GrF.refl
  refine ⟨this.a, fun i hi => ?_⟩
  obtain ⟨k, hk, rfl⟩ := List.getElem_of_mem hi
  obtain ⟨A, c, e, -, -, hel⟩ := this.i.elem
  obtain ⟨b, o, cs, -, -, ⟨u, -, ok, -⟩, -⟩ := hel k hk
  exact ok⟩
theorem info_block : (Tryz.prog.info? 29).map (fun i => (i.zero, i.size)) = some (some (.agg (blc blZ (.slice none 0 0))), 68) := by kernel_rfl
theorem blocksz (B : Blk) (tv : Value) (H : HOk B.p B.r B.t B.b B.n) : (Tryz.prog.info? 29).map (·.size) = some (blc B tv).size := by
  rw [blc_size B tv H]; kernel_rfl
end Go.Proofs.YtejeekbpeinioaaGreatDoor
