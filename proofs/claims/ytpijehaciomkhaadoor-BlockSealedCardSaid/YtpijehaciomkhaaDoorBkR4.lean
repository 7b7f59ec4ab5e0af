/- LAYER 10, the document's: Get. -/
import Derived.Test.YtpijehaciomkhaaDoorBh
namespace Go.Proofs.YtpijehaciomkhaaDoor
open Go Go.RowKit
set_option linter.unusedVariables false
set_option linter.unusedSimpArgs false
set_option linter.unusedVariables false
set_option linter.unusedSimpArgs false

theorem run_blkh0 (x0 x1 x2 x3 x4 x5 x6 x7 x8 x9 x10 x11 x12 x13 x14 x15 x16 x17 x18 x19 x20 x21 x22 x23 x24 x25 x26 x27 x28 x29 x30 x31 y0 y1 y2 y3 y4 y5 y6 y7 y8 y9 y10 y11 y12 y13 y14 y15 y16 y17 y18 y19 y20 y21 y22 y23 y24 y25 y26 y27 y28 y29 y30 y31 : UInt8) (t b n : Nat) (w : World) :
    (Instr.build 29 #[(0, .agg (hdc [x0, x1, x2, x3, x4, x5, x6, x7, x8, x9, x10, x11, x12, x13, x14, x15, x16, x17, x18, x19, x20, x21, x22, x23, x24, x25, x26, x27, x28, x29, x30, x31] [y0, y1, y2, y3, y4, y5, y6, y7, y8, y9, y10, y11, y12, y13, y14, y15, y16, y17, y18, y19, y20, y21, y22, y23, y24, y25, y26, y27, y28, y29, y30, y31] t b n))]).run Tryd.prog w = .ok (.agg (blc ⟨[x0, x1, x2, x3, x4, x5, x6, x7, x8, x9, x10, x11, x12, x13, x14, x15, x16, x17, x18, x19, x20, x21, x22, x23, x24, x25, x26, x27, x28, x29, x30, x31], [y0, y1, y2, y3, y4, y5, y6, y7, y8, y9, y10, y11, y12, y13, y14, y15, y16, y17, y18, y19, y20, y21, y22, y23, y24, y25, y26, y27, y28, y29, y30, y31], t, b, n, []⟩ (.slice none 0 0))) w := by kernel_rfl
theorem run_blkh (p r : List UInt8) (hp : p.length = 32) (hr : r.length = 32) (t b n : Nat) (w : World) :
    (Instr.build 29 #[(0, .agg (hdc p r t b n))]).run Tryd.prog w = .ok (.agg (blc ⟨p, r, t, b, n, []⟩ (.slice none 0 0))) w := by
  obtain ⟨x0, x1, x2, x3, x4, x5, x6, x7, x8, x9, x10, x11, x12, x13, x14, x15, x16, x17, x18, x19, x20, x21, x22, x23, x24, x25, x26, x27, x28, x29, x30, x31, rfl⟩ := list32h p hp
  obtain ⟨y0, y1, y2, y3, y4, y5, y6, y7, y8, y9, y10, y11, y12, y13, y14, y15, y16, y17, y18, y19, y20, y21, y22, y23, y24, y25, y26, y27, y28, y29, y30, y31, rfl⟩ := list32h r hr
  exact run_blkh0 x0 x1 x2 x3 x4 x5 x6 x7 x8 x9 x10 x11 x12 x13 x14 x15 x16 x17 x18 x19 x20 x21 x22 x23 x24 x25 x26 x27 x28 x29 x30 x31 y0 y1 y2 y3 y4 y5 y6 y7 y8 y9 y10 y11 y12 y13 y14 y15 y16 y17 y18 y19 y20 y21 y22 y23 y24 y25 y26 y27 y28 y29 y30 y31 t b n w
theorem run_mktx1 (A A' : Option Addr) (k c k' c' a : Nat) (w : World) : (Instr.buildSlice 27 1 #[(0, .agg #[.slice A k c, .slice A' k' c', .int .u32 (a : Int)])]).run Tryd.prog w = .ok (.slice (some ⟨w.heap.size, 0, none⟩) 1 1) (w.alloc (.cells #[.slice A k c, .slice A' k' c', .int .u32 (a : Int)] 39)) := by kernel_rfl
theorem blc_set (B C : Blk) (u v : Value) (H : HOk B.p B.r B.t B.b B.n) (e : blc C u = blc B u) : (blc C u).setIfInBounds 67 v = blc B v := by
  rw [e]
  have hl := hdl_length B.p B.r B.t B.b B.n H.p H.r
  simp only [blc, List.setIfInBounds_toArray]
  rw [List.set_append_right _ _ (by omega), hl]
  rfl
theorem ownK_rd {K B : Nat} {w W : World} {v : Value} {es : List Txn} (h : OwnE (txE (fun k => k ≤ K)) B w v es) (hB : K < B) (x : Above (K + 1) w W) : RdE (txE noF) W v es := by
  obtain ⟨fs, h1, h2⟩ := h
  refine ⟨fs, (x.ownF h1 hB).rd h2.one, h2.1, fun j hj => ?_⟩
  obtain ⟨iv, ov, e, hw⟩ := h2.2 j hj
  refine ⟨iv, ov, e, fun W' k => hw W' ⟨k.os.trans x.os, k.tape.trans x.tape, k.output.trans x.output, Nat.le_trans x.size k.size, fun i hi hf hs => ?_⟩⟩
  have hi2 : K + 1 ≤ i := by omega
  exact (k.block i (Nat.lt_of_lt_of_le hi x.size) id (by simp)).trans (x.block i hi2 hi)
theorem ownK_beside {F : Nat → Prop} {K B : Nat} {w w' : World} {v : Value} {es : List Txn} (h : OwnE (txE F) B w v es) (hF : F K) (hB : K < B) (x : w.grownBy w' (some K)) : OwnE (txE F) B w' v es := by
  obtain ⟨fs, h1, h2⟩ := h
  refine ⟨fs, ownF_beside h1 hB x, h2.1, fun j hj => ?_⟩
  obtain ⟨iv, ov, e, hw⟩ := h2.2 j hj
  exact ⟨iv, ov, e, fun W' k => hw W' (GrF.trans ⟨x.os, x.tape, x.output, x.size, fun i hi hf hs => x.block i hi (fun e => by have := Option.some.inj e; subst this; exact hf hF)⟩ k)⟩
theorem txzc : (Value.agg #[.slice none 0 0, .slice none 0 0, .int .u32 0]).cells.size = 3 := rfl
theorem u64_succ (j : Nat) (h : j < 1000) : IntKind.u64.wrap ((j : Int) + 1) = ((j + 1 : Nat) : Int) := by rw [IntKind.wrap_u64, Int.emod_eq_of_lt (by omega) (by omega)]; push_cast; rfl
end Go.Proofs.YtpijehaciomkhaaDoor
