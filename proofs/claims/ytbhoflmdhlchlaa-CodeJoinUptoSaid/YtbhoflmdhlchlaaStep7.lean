/- LAYER 11: Same of the program, of like steps. -/
import Derived.Test.YtbhoflmdhlchlaaStep6
import Derived.Test.YtbhoflmdhlchlaaCell3
import Derived.Test.YtbhoflmdhlchlaaRowU
namespace Go.Proofs.Ytbhoflmdhlchlaa
open Go Go.RowKit
set_option linter.unusedVariables false
set_option linter.unusedSimpArgs false
set_option linter.unusedVariables false
set_option linter.unusedSimpArgs false

set_option maxHeartbeats 2000000 in
theorem csame1_yes (op : UInt8) (l : List UInt8) (u1 u2 : Value) (w : World) (h1 : Rd w u1 l) (h2 : Rd w u2 l) :
    Calls Try.prog 49 #[.agg #[.int .u8 (op.toNat : Int), u1], .agg #[.int .u8 (op.toNat : Int), u2]] w fun e w' => e = .returned (.bool true) ∧ Nx w w' := by
  have H1 := Lib.hid h1
  have H2 := Lib.hid h2
  obtain ⟨A1, c1, rfl, -, -, -⟩ := h1
  obtain ⟨A2, c2, rfl, -, -, -⟩ := h2
  have NN := Lib.hid (((Nx.refl w).alloc (.cells #[.int .u8 (op.toNat : Int), .slice A1 l.length c1] 55)).alloc (.cells #[.int .u8 (op.toNat : Int), .slice A2 l.length c2] 55))
  have K0 := (Row.new w #[.int .u8 (op.toNat : Int), .slice A1 l.length c1] 55 _ rfl).alloc (.cells #[.int .u8 (op.toNat : Int), .slice A2 l.length c2] 55)
  have K1 := Row.new2 w (.cells #[.int .u8 (op.toNat : Int), .slice A1 l.length c1] 55) #[.int .u8 (op.toNat : Int), .slice A2 l.length c2] 55
  have a0 := K0.cell (i := 0) (v := .int .u8 (op.toNat : Int)) rfl
  have a1 := K0.cell (i := 1) (v := .slice A1 l.length c1) rfl
  have b0 := K1.cell (i := 0) (v := .int .u8 (op.toNat : Int)) rfl
  have b1 := K1.cell (i := 1) (v := .slice A2 l.length c2) rfl
  have HB := Lib.hid (bequal_any _ _ l l _ (H1.out.nx NN.out) (H2.out.nx NN.out))
  clear K0 K1
  go_enter Try.func49, Try.ntmps49
  go_wp2_with fail
  refine HB.out.mono ?_
  rintro e w1 ⟨rfl, rfl⟩
  go_wp2_with fail
  go_ret
  exact ⟨by simp, NN.out⟩
theorem ent_same1 (args : Array Value) (w : World) : (callFunc 49 args).run Try.prog w = .ok (.enter 49 args) w := by kernel_rfl
set_option maxRecDepth 100000 in
set_option maxHeartbeats 2000000 in
theorem sequal_yes (v1 v2 : Value) (es : List Step) (w : World) (h1 : RdE stepEl w v1 es) (h2 : RdE stepEl w v2 es) (hn : es.length ≤ 140737488355328) :
    Calls Try.prog 48 #[v1, v2, .func (.func 49) #[] #[]] w fun e w' => e = .returned (.bool true) ∧ Nx w w' := by
  have HR := Lib.hid h1
  have HS := Lib.hid h2
  have hent := ent_same1
  obtain ⟨A1, c1, fs1, rfl, -, -, -, -⟩ := h1.parts
  obtain ⟨A2, c2, fs2, rfl, -, -, -, -⟩ := h2.parts
  have hjb : (es.length : Int) ≤ 140737488355328 := by omega
  have hne : ((es.length : Int) != (es.length : Int)) = false := by simp
  clear h1 h2 hn fs1 fs2
  go_enter Try.func48, Try.ntmps48
  go_wp2_with fail
  clear hne
  go_loopw [17] (fun i wr => ∃ j : Nat, j ≤ es.length ∧ i = .int .i64 j ∧ Nx w wr) (fun i _ => es.length - (intOf i).toNat)
  case atStart => exact ⟨0, by omega, rfl, Nx.refl _⟩
  case round =>
    obtain ⟨j, hj, rfl, hx⟩ := hrel
    by_cases hlt : j < es.length
    · obtain ⟨b, o, c', u, e, hb, g0, g1, hr⟩ := step_at HR.out j hlt
      obtain ⟨d, q, k', z, e', hd, f0, f1, hq⟩ := step_at HS.out j hlt
      injection e with e1 e2 e3
      subst e1
      injection e' with e4 e5 e6
      subst e4
      have hlt' : (j : Int) < (es.length : Int) := by omega
      have hj0 : (0 : Int) ≤ (j : Int) := by omega
      have HRA := Lib.hid hr.1
      have HRB := Lib.hid hq.1
      have HX := Lib.hid hx
      obtain ⟨B9, d9, rfl⟩ := hr.sl
      obtain ⟨B8, d8, rfl⟩ := hq.sl
      generalize es[j] = a at *
      obtain ⟨op, l⟩ := a
      dsimp only at g0 g1 f0 f1 HRA HRB hr hq
      have HSA := Lib.hid (stepsz (.int .u8 (op.toNat : Int)) (.slice B9 l.length d9))
      have HSB := Lib.hid (stepsz (.int .u8 (op.toNat : Int)) (.slice B8 l.length d8))
      have S1 : Nx wr ((wr.alloc (.cells #[.int .u8 0, .slice none 0 0] 55)).setRow wr.heap.size #[.int .u8 (op.toNat : Int), .slice B9 l.length d9]) := ((Nx.refl wr).alloc _).setRow _ (Nat.le_refl _)
      have Z1 := Row.new wr #[.int .u8 0, .slice none 0 0] 55 _ rfl
      have R1 := Z1.setRow #[.int .u8 (op.toNat : Int), .slice B9 l.length d9]
      have HCE := Lib.hid (step_cells ((hx.cell (p := ⟨b, o + j * 2, none⟩) hb).trans g0) ((hx.cell (p := ⟨b, o + (j * 2 + 1), none⟩) hb).trans g1))
      have X1 := hx.trans S1
      have HCF := Lib.hid (step_cells ((X1.cell (p := ⟨d, q + j * 2, none⟩) hd).trans f0) ((X1.cell (p := ⟨d, q + (j * 2 + 1), none⟩) hd).trans f1))
      have hsz1 : ((wr.alloc (.cells #[.int .u8 0, .slice none 0 0] 55)).setRow wr.heap.size #[.int .u8 (op.toNat : Int), .slice B9 l.length d9]).heap.size = wr.heap.size + 1 := by simp
      have R1a := R1.alloc (.cells #[.int .u8 0, .slice none 0 0] 55)
      have Z2 := Row.new ((wr.alloc (.cells #[.int .u8 0, .slice none 0 0] 55)).setRow wr.heap.size #[.int .u8 (op.toNat : Int), .slice B9 l.length d9]) #[.int .u8 0, .slice none 0 0] 55 (wr.heap.size + 1) hsz1.symm
      have R2 := Z2.setRow #[.int .u8 (op.toNat : Int), .slice B8 l.length d8]
      have R1b := R1a.setRow_other (k := wr.heap.size + 1) #[.int .u8 (op.toNat : Int), .slice B8 l.length d8] (by omega)
      have S2 : Nx w ((((wr.alloc (.cells #[.int .u8 0, .slice none 0 0] 55)).setRow wr.heap.size #[.int .u8 (op.toNat : Int), .slice B9 l.length d9]).alloc (.cells #[.int .u8 0, .slice none 0 0] 55)).setRow (wr.heap.size + 1) #[.int .u8 (op.toNat : Int), .slice B8 l.length d8]) := (X1.alloc _).setRow _ (by have := hx.size; omega)
      have HC1 := Lib.hid (csame1_yes op l (.slice B9 l.length d9) (.slice B8 l.length d8) _ (HRA.out.nx S2) (HRB.out.nx S2))
      have N2 := Lib.hid S2
      clear g0 g1 f0 f1 hr hq e2 e3 e5 e6 hx S1 X1 S2 R1 R1a
      go_wp2_with (first | (refine wpList_load_at rfl 55 (.tmp 20) rfl b (o + j * 2) rfl #[.int .u8 (op.toNat : Int), .slice B9 l.length d9] _ HCE.out Try.underlying55 rfl HSA.out ?_) | (refine wpList_store_row rfl 55 (.tmp 8) (.tmp 21) rfl wr.heap.size #[.int .u8 (op.toNat : Int), .slice B9 l.length d9] rfl rfl 55 #[.int .u8 0, .slice none 0 0] Z1 HSA.out rfl (stepone _ _ _ _) ?_) | (refine wpList_load_at rfl 55 (.tmp 24) rfl d (q + j * 2) rfl #[.int .u8 (op.toNat : Int), .slice B8 l.length d8] _ HCF.out Try.underlying55 rfl HSB.out ?_) | (refine wpList_store_row rfl 55 (.tmp 9) (.tmp 25) rfl (wr.heap.size + 1) #[.int .u8 (op.toNat : Int), .slice B8 l.length d8] rfl rfl 55 #[.int .u8 0, .slice none 0 0] Z2 HSB.out rfl (stepone _ _ _ _) ?_) | (refine wpList_load_row rfl 55 (.tmp 8) rfl wr.heap.size rfl 55 #[.int .u8 (op.toNat : Int), .slice B9 l.length d9] (0, 0) _ R1b Try.underlying55 rfl HSA.out ?_) | (refine wpList_load_row rfl 55 (.tmp 9) rfl (wr.heap.size + 1) rfl 55 #[.int .u8 (op.toNat : Int), .slice B8 l.length d8] (0, 0) _ R2 Try.underlying55 rfl HSB.out ?_))
      refine HC1.out.mono ?_
      rintro e w3 ⟨rfl, n3⟩
      have N3 := Lib.hid (N2.out.trans n3)
      clear n3 R2 R1b Z1 Z2 HCE HCF
      go_wp2_with fail
      go_roundw
      case rel => exact ⟨j + 1, by omega, by go_num, N3.out⟩
      case measure => simp [intOf]; omega
    · go_wp2_with fail
      go_ret
      exact ⟨rfl, hx⟩
end Go.Proofs.Ytbhoflmdhlchlaa
