/- LAYER 10: a root of which one byte is another. -/
import Derived.Test.YtpijehaciomkhaaDoorBf
namespace Go.Proofs.YtpijehaciomkhaaDoor
open Go Go.RowKit
set_option linter.unusedVariables false
set_option linter.unusedSimpArgs false
set_option linter.unusedVariables false
set_option linter.unusedSimpArgs false

theorem wrap_u8x (n : Int) : IntKind.u8.wrap n = n % 256 := by simp [IntKind.wrap, IntKind.bits, IntKind.signed]
theorem bits_xor_u8 (a b : UInt8) : bits .xor .u8 (a.toNat : Int) (b.toNat : Int) = ((a ^^^ b).toNat : Int) := by
  have ha := a.toNat_lt
  have hb := b.toNat_lt
  have hx : a.toNat ^^^ b.toNat < 2 ^ 8 := Nat.xor_lt_two_pow (by omega) (by omega)
  have h1 : (BitVec.ofInt 8 (a.toNat : Int)).toNat = a.toNat := by
    rw [BitVec.ofInt_natCast, BitVec.toNat_ofNat]; exact Nat.mod_eq_of_lt (by omega)
  have h2 : (BitVec.ofInt 8 (b.toNat : Int)).toNat = b.toNat := by
    rw [BitVec.ofInt_natCast, BitVec.toNat_ofNat]; exact Nat.mod_eq_of_lt (by omega)
  show IntKind.u8.wrap ((BitVec.ofInt 8 (a.toNat : Int) ^^^ BitVec.ofInt 8 (b.toNat : Int)).toNat : Int) = _
  rw [BitVec.toNat_xor, h1, h2, wrap_u8x, UInt8.toNat_xor]
  omega
theorem xor_self_iff (a b : UInt8) : a ^^^ b = a ↔ b = 0 := by
  constructor
  · intro h
    have h2 : a ^^^ (a ^^^ b) = a ^^^ a := by rw [h]
    rw [← UInt8.xor_assoc, UInt8.xor_self, UInt8.zero_xor] at h2
    exact h2
  · rintro rfl
    exact UInt8.xor_zero
theorem flip_same (r : List UInt8) (i : Nat) (hi : i < r.length) (b : UInt8) : r.set i (r[i] ^^^ b) = r ↔ b = 0 := by
  constructor
  · intro h
    have h2 : (r.set i (r[i] ^^^ b))[i]'(by simpa using hi) = r[i] := by simp only [h]
    rw [List.getElem_set_self] at h2
    exact (xor_self_iff _ _).1 h2
  · rintro rfl
    rw [UInt8.xor_zero, List.set_getElem_self]
theorem seB_flip (B : Blk) (hro : roB B.txs = true) (r : List UInt8) (hr : roH B.txs = r) (i : Nat) (hi : i < r.length) (b : UInt8) : seB { B with r := r.set i (r[i] ^^^ b) } = decide (b = 0) := by
  unfold seB
  simp only [hro, Bool.true_and, hr]
  by_cases hb : b = 0
  · rw [decide_eq_true hb, decide_eq_true ((flip_same r i hi b).2 hb).symm]
  · rw [decide_eq_false hb, decide_eq_false fun h => hb ((flip_same r i hi b).1 h.symm)]
theorem blc_flip (B : Blk) (tv : Value) (H : HOk B.p B.r B.t B.b B.n) (i : Nat) (hi : i < 32) (y : UInt8) : (blc B tv).setIfInBounds (32 + i) (bv y) = blc { B with r := B.r.set i y } tv := by
  have hp := H.p
  have hr := H.r
  unfold blc hdl
  rw [List.setIfInBounds_toArray]
  congr 1
  simp only [List.append_assoc]
  rw [List.set_append_right _ _ (by simp [hp])]
  rw [List.set_append_left _ _ (by simp [hp, hr]; omega)]
  simp [bvs, hp, List.map_set]
theorem blc_byte (B : Blk) (tv : Value) (H : HOk B.p B.r B.t B.b B.n) (i : Nat) (hi : i < B.r.length) : (blc B tv)[32 + i]? = some (bv B.r[i]) := by
  have hp := H.p
  refine blc_h B tv _ _ ?_
  unfold hdc hdl
  rw [List.getElem?_toArray]
  try simp only [List.append_assoc]
  rw [List.getElem?_append_right (by simp [hp]), List.getElem?_append_left (by simp [hp]; omega)]
  simp [bvs, hp, hi]
section
variable {P : Program} {o : Oper} {a : Act} {w : World} {K : Act → World → Prop} {Q : Exit → Act → World → Prop}
theorem wp_rem8_of (dst : Option Tmp) (hd : o.dst = dst) (T : TypeId) (x y : Operand) (T' : TypeId) (ho : o.op = .binOp .rem T x y T') (n : Nat) (hn : n < 256)
    (hx : a.eval x = .int .u8 (n : Int)) (hy : a.eval y = .int .u8 32) (h : K (a.put dst (.int .u8 ((n % 32 : Nat) : Int))) w) : o.wp P a w K Q := by
  refine wp_val_of dst hd (.int .u8 ((n % 32 : Nat) : Int)) ?_ h
  unfold execOp
  simp only [ho, hx, hy]
  have e0 : ((n : Int).tmod 32) = ((n % 32 : Nat) : Int) := by rw [Int.tmod_eq_emod_of_nonneg (by omega)]; omega
  have e1 : IntKind.u8.wrap ((n % 32 : Nat) : Int) = ((n % 32 : Nat) : Int) := by rw [wrap_u8x]; omega
  simp [binOp, eqGuard, go_sem, e0, e1]
theorem wp_xor8_of (dst : Option Tmp) (hd : o.dst = dst) (T : TypeId) (x y : Operand) (T' : TypeId) (ho : o.op = .binOp .xor T x y T') (p q : UInt8)
    (hx : a.eval x = bv p) (hy : a.eval y = bv q) (h : K (a.put dst (bv (p ^^^ q))) w) : o.wp P a w K Q := by
  refine wp_val_of dst hd (bv (p ^^^ q)) ?_ h
  unfold execOp
  simp only [ho, hx, hy]
  have e1 := bits_xor_u8 p q
  simp [binOp, eqGuard, go_sem, bv, e1]
theorem wp_eq0_of (dst : Option Tmp) (hd : o.dst = dst) (T : TypeId) (x y : Operand) (T' : TypeId) (ho : o.op = .binOp .eql T x y T') (q : UInt8)
    (hx : a.eval x = bv q) (hy : a.eval y = .int .u8 0) (h : K (a.put dst (.bool (decide (q = 0)))) w) : o.wp P a w K Q := by
  refine wp_val_of dst hd (.bool (decide (q = 0))) ?_ h
  unfold execOp
  simp only [ho, hx, hy]
  have e1 : (eqGuard .eql T x y (bv q) (.int .u8 0)).run P w = .ok () w := by
    simp [eqGuard, bv]
  have e0 : ((q.toNat : Int) == 0) = decide (q = 0) := by
    by_cases hq : q = 0
    · subst hq; rfl
    · rw [decide_eq_false hq, beq_eq_false_iff_ne]
      intro h
      exact hq (UInt8.toNat_inj.1 (by simpa using h))
  have e2 : (binOp .eql T (bv q) (.int .u8 0)).run P w = .ok (.bool (decide (q = 0))) w := by
    simp only [binOp, Op.intCmp, bv]
    simp [e0]
  simp only [Sem.run_bind, e1, e2, Result.andThen_ok, Sem.run_pure]
theorem wp_eqb_ofX (dst : Option Tmp) (hd : o.dst = dst) (T : TypeId) (x y : Operand) (T' : TypeId) (ho : o.op = .binOp .eql T x y T') (z : Bool)
    (hx : a.eval x = .bool z) (hy : a.eval y = .bool z) (heq : ∀ w, (Op.equal T (.bool z) (.bool z)).run P w = .ok true w) (h : K (a.put dst (.bool true)) w) : o.wp P a w K Q := by
  refine wp_val_of dst hd (.bool true) ?_ h
  unfold execOp
  simp only [ho, hx, hy]
  have e1 : (eqGuard .eql T x y (.bool z) (.bool z)).run P w = .ok () w := by
    simp [eqGuard]
  have e2 : (binOp .eql T (.bool z) (.bool z)).run P w = .ok (.bool true) w := by
    simp [binOp, heq]
  simp only [Sem.run_bind, e1, e2, Result.andThen_ok, Sem.run_pure]
end
theorem eqb_sameX (z : Bool) (w : World) : (Op.equal 4 (.bool z) (.bool z)).run Tryd.prog w = .ok true w := by cases z <;> kernel_rfl
end Go.Proofs.YtpijehaciomkhaaDoor
