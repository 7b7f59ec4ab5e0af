/- LAYER 11: the bytes of a step. -/
import Derived.Test.YtbhoflmdhlchlaaStep3
import Derived.Test.YtbhoflmdhlchlaaEndsP2
import Derived.Test.YtbhoflmdhlchlaaRegMore
namespace Go.Proofs.Ytbhoflmdhlchlaa
open Go Go.RowKit
set_option linter.unusedVariables false
set_option linter.unusedSimpArgs false
set_option linter.unusedVariables false
set_option linter.unusedSimpArgs false

/-- A step's bytes. -/
def textS (op : UInt8) (l : List UInt8) : List UInt8 := if op = 1 then (if l.length < 128 then UInt8.ofNat l.length :: l else 128 :: (low l.length 2 ++ l)) else [op + 127]
set_option maxHeartbeats 1000000 in
theorem text_any (op : UInt8) (u : Value) (l : List UInt8) (w : World) (h : Rd w u l) (hl : l.length ≤ 3000) :
    Calls Try.prog 45 #[.agg #[.int .u8 (op.toNat : Int), u]] w fun e w' => ∃ v, e = .returned v ∧ Own w.heap.size w' v (textS op l) ∧ Nx w w' := by
  have HR := Lib.hid h
  obtain ⟨A, c, rfl, -, -, -⟩ := h
  have R := Row.new w #[.int .u8 (op.toNat : Int), .slice A l.length c] 55 _ rfl
  have k0 := R.cell (i := 0) (v := .int .u8 (op.toNat : Int)) rfl
  have k1 := R.cell (i := 1) (v := .slice A l.length c) rfl
  have NW := Lib.hid ((Nx.refl w).alloc (.cells #[.int .u8 (op.toNat : Int), .slice A l.length c] 55))
  have HLL := Lib.hid hl
  have HS0 : Hid ((w.alloc (.cells #[.int .u8 (op.toNat : Int), .slice A l.length c] 55)).heap.size = w.heap.size + 1) := Lib.hid (by simp)
  clear R
  by_cases ho : op = 1
  · subst ho
    have e1 : (((1 : UInt8).toNat : Int) != 1) = false := by decide
    by_cases hs : l.length < 128
    · have HV : Hid (textS 1 l = [UInt8.ofNat l.length] ++ l) := Lib.hid (by unfold textS; rw [if_pos rfl, if_pos hs]; rfl)
      have hs' : (l.length : Int) < 128 := by omega
      have hm : IntKind.u8.wrap (l.length : Int) = (l.length : Int) := by simp [IntKind.wrap, IntKind.bits, IntKind.signed]; omega
      have hm2 : (l.length : Int) % 256 = (l.length : Int) := by omega
      have HC8 : Hid ((l.length : Int) = ((UInt8.ofNat l.length).toNat : Int)) := Lib.hid (by rw [UInt8.toNat_ofNat']; omega)
      clear hl hs
      go_enter Try.func45, Try.ntmps45
      go_wp2_with fail
      have hW : (w.alloc (.cells #[.int .u8 1, .slice A l.length c] 55)) = w.alloc (.cells #[.int .u8 (((1 : UInt8).toNat : Nat) : Int), .slice A l.length c] 55) := rfl
      rw [hW]
      clear hW k0 k1
      generalize w.alloc (.cells #[.int .u8 (((1 : UInt8).toNat : Nat) : Int), .slice A l.length c] 55) = W0 at *
      have o1 := Own.one W0 (l.length : Int) (UInt8.ofNat l.length) HC8.out
      rw [HS0.out] at o1
      have HS1 : Hid ((W0.alloc (.cells #[.int .u8 (l.length : Int)] 5)).heap.size = w.heap.size + 1 + 1) := Lib.hid (by rw [← HS0.out]; simp)
      have NW1 := Lib.hid (NW.out.alloc (.cells #[.int .u8 (l.length : Int)] 5))
      generalize W0.alloc (.cells #[.int .u8 (l.length : Int)] 5) = W1 at *
      have hcat := catAt2 o1.rd (HR.out.nx NW1.out)
      rw [HS1.out] at hcat
      have NW2 := Lib.hid (NW1.out.alloc (.cells #[.slice (some ⟨w.heap.size + 1, 0, none⟩) 1 1, .slice A l.length c] 23))
      generalize W1.alloc (.cells #[.slice (some ⟨w.heap.size + 1, 0, none⟩) 1 1, .slice A l.length c] 23) = W2 at *
      refine (concat_at W2 hcat (by simp) (by have := HLL.out; simp; omega) w.heap.size NW2.out.size).mono ?_
      rintro e w1 ⟨vr, rfl, orr, n1⟩
      have OR := Lib.hid orr
      have N1 := Lib.hid (NW2.out.trans n1)
      clear orr n1 hcat o1
      go_wp2_with fail
      go_ret
      exact ⟨_, rfl, by rw [HV.out]; simpa using OR.out, N1.out⟩
    · have HV : Hid (textS 1 l = [128] ++ (putL l.length 2 ++ l)) := Lib.hid (by
        unfold textS
        rw [if_pos rfl, if_neg hs]
        have : putL l.length 2 = low l.length 2 := by
          unfold putL putOk
          rw [show isSz 2 = true by decide]
          simp
          omega
        rw [this]
        rfl)
      have hs' : ¬ (l.length : Int) < 128 := by omega
      have hm2 : (l.length : Int) % 18446744073709551616 = (l.length : Int) := by omega
      have HPU := Lib.hid (fun w => put_any l.length 2 w)
      have HPL : Hid ((putL l.length 2).length ≤ 8) := Lib.hid (by unfold putL; split <;> simp)
      clear hl hs
      generalize putL l.length 2 = PL at *
      generalize putE l.length 2 = PE at *
      go_enter Try.func45, Try.ntmps45
      go_wp2_with fail
      have hW : (w.alloc (.cells #[.int .u8 1, .slice A l.length c] 55)) = w.alloc (.cells #[.int .u8 (((1 : UInt8).toNat : Nat) : Int), .slice A l.length c] 55) := rfl
      rw [hW]
      have K1 := Lib.hid k1
      clear hW k0 k1
      generalize w.alloc (.cells #[.int .u8 (((1 : UInt8).toNat : Nat) : Int), .slice A l.length c] 55) = W0 at *
      refine (HPU.out _).mono ?_
      rintro e w1 ⟨vy, rfl, oy, n1⟩
      have OY := Lib.hid oy.rd
      obtain ⟨A5, c5, rfl, -, -, -⟩ := oy.rd
      have N1 := Lib.hid (NW.out.trans n1)
      have k1 : w1.cell? ⟨w.heap.size, 1, none⟩ = some (.slice A l.length c) := (n1.cell (p := ⟨w.heap.size, 1, none⟩) (by have := HS0.out; show w.heap.size < _; omega)).trans K1.out
      have hlt1 : w.heap.size < w1.heap.size := by have := HS0.out; have := n1.size; omega
      have k1b := (((Nx.refl w1).alloc (.cells #[.int .u8 128] 5)).cell (p := ⟨w.heap.size, 1, none⟩) hlt1).trans k1
      clear oy n1 hlt1
      go_wp2_with fail
      clear k1b
      have o1 := Own.one w1 128 128 rfl
      have ry := OY.out.alloc (.cells #[.int .u8 128] 5)
      have NW1 := Lib.hid (N1.out.alloc (.cells #[.int .u8 128] 5))
      have HS1 : Hid ((w1.alloc (.cells #[.int .u8 128] 5)).heap.size = w1.heap.size + 1) := Lib.hid (by simp)
      generalize w1.alloc (.cells #[.int .u8 128] 5) = W1 at *
      have hcat := catAt3 o1.rd ry (HR.out.nx NW1.out)
      rw [HS1.out] at hcat
      have NW2 := Lib.hid (NW1.out.alloc (.cells #[.slice (some ⟨w1.heap.size, 0, none⟩) 1 1, .slice A5 PL.length c5, .slice A l.length c] 23))
      generalize W1.alloc (.cells #[.slice (some ⟨w1.heap.size, 0, none⟩) 1 1, .slice A5 PL.length c5, .slice A l.length c] 23) = W2 at *
      refine (concat_at W2 hcat (by simp) (by have := HLL.out; have := HPL.out; simp; omega) w.heap.size NW2.out.size).mono ?_
      rintro e w3 ⟨vr, rfl, orr, n3⟩
      have OR := Lib.hid orr
      have N3 := Lib.hid (NW2.out.trans n3)
      clear orr n3 hcat o1 ry k1
      go_wp2_with fail
      go_ret
      exact ⟨_, rfl, by rw [HV.out]; simpa using OR.out, N3.out⟩
  · have HV : Hid (textS op l = [op + 127]) := Lib.hid (by unfold textS; rw [if_neg ho])
    have e1 : ((op.toNat : Int) != 1) = true := by
      simp only [bne_iff_ne, ne_eq]
      intro e
      exact ho (UInt8.toNat_inj.1 (by show op.toNat = 1; omega))
    clear ho
    go_enter Try.func45, Try.ntmps45
    go_wp2_with fail
    go_ret
    have HZ : Hid ((128 + (op.toNat : Int) - 1) % 256 = ((op + 127).toNat : Int)) := Lib.hid (by rw [UInt8.toNat_add]; show _ = (((op.toNat + 127) % 256 : Nat) : Int); omega)
    have o1 := Own.one (w.alloc (.cells #[.int .u8 (op.toNat : Int), .slice A l.length c] 55)) _ (op + 127) HZ.out
    have o2 := o1.mono (B' := w.heap.size) NW.out.size
    rw [HS0.out] at o2
    exact ⟨_, rfl, by rw [HV.out]; exact o2, NW.out.alloc _⟩
end Go.Proofs.Ytbhoflmdhlchlaa
