/- LAWS: a cut of an array, of our own. -/
import Derived.Test.YtbhoflmdhlchlaaRowU
namespace Go.Proofs.Ytbhoflmdhlchlaa
open Go.RowKit
set_option linter.unusedVariables false
set_option linter.unusedSimpArgs false
section
variable {P : Program}
/-- A cut of an array that stands in a block. -/
theorem slice_arr (t e : TypeId) (n : Nat) (ht : P.underlying t = some (.array n e)) (hsz : ∀ w, (sizeOf e).run P w = .ok 1 w) (g lo hi : Nat) (zl zh : Int) (hl : zl = lo) (hh : zh = hi) (h1 : lo ≤ hi) (h2 : hi ≤ n) (h3 : lo < n) (w : World) :
    (Instr.sliceAt t (.pointer (some ⟨g, 0, none⟩)) (some (.int .i64 zl)) (some (.int .i64 zh)) none).run P w = .ok (.slice (some ⟨g, lo, none⟩) (hi - lo) (n - lo)) w := by
  subst hl hh
  have e1 : ¬ (n = lo) := by omega
  simp [Instr.sliceAt, Instr.sureAddr, run_underlying ht, Instr.sliceBounds, run_sliceBound, hsz, e1, h1, h2, addr_add, (by omega : (lo : Int) ≤ (hi : Int)), (by omega : (hi : Int) ≤ (n : Int))]
theorem slice_arr_all (t e : TypeId) (n : Nat) (ht : P.underlying t = some (.array n e)) (hsz : ∀ w, (sizeOf e).run P w = .ok 1 w) (g : Nat) (h3 : 0 < n) (w : World) :
    (Instr.sliceAt t (.pointer (some ⟨g, 0, none⟩)) none none none).run P w = .ok (.slice (some ⟨g, 0, none⟩) n n) w := by
  have e1 : ¬ (n = 0) := by omega
  simp [Instr.sliceAt, Instr.sureAddr, run_underlying ht, Instr.sliceBounds, run_sliceBound, hsz, e1, addr_add]
/-- A slice up to a place. -/
theorem slice_to (t e : TypeId) (ht : P.underlying t = some (.slice e)) (hsz : ∀ w, (sizeOf e).run P w = .ok 1 w) (A : Option Addr) (n c hi : Nat) (zh : Int) (hh : zh = hi) (h1 : hi ≤ c) (w : World) :
    (Instr.sliceAt t (.slice A n c) none (some (.int .i64 zh)) none).run P w = .ok (.slice A hi c) w := by
  subst hh
  have e2 : (hi : Int) ≤ (c : Int) := by omega
  rcases A with _ | ⟨b, o, p⟩
  · simp [Instr.sliceAt, Instr.slice, Instr.sureAddr, run_underlying ht, Instr.sliceBounds, run_sliceBound, hsz, e2, h1]
  · simp [Instr.sliceAt, Instr.slice, Instr.sureAddr, run_underlying ht, Instr.sliceBounds, run_sliceBound, hsz, e2, h1]
    intro _
    unfold Addr.add
    simp
/-- What a slice is from a place on. -/
def fromV (A : Option Addr) (n c lo : Nat) : Value := .slice (if c = lo then A else A.map (·.add lo)) (n - lo) (c - lo)
theorem slice_fromV (t e : TypeId) (ht : P.underlying t = some (.slice e)) (hsz : ∀ w, (sizeOf e).run P w = .ok 1 w) (A : Option Addr) (n c lo : Nat) (zl : Int) (hl : zl = lo) (h1 : lo ≤ n) (h2 : n ≤ c) (w : World) :
    (Instr.sliceAt t (.slice A n c) (some (.int .i64 zl)) none none).run P w = .ok (fromV A n c lo) w := by
  subst hl
  have e2 : (lo : Int) ≤ (n : Int) := by omega
  unfold fromV
  simp [Instr.sliceAt, Instr.slice, Instr.sureAddr, run_underlying ht, Instr.sliceBounds, run_sliceBound, hsz, e2, h1]
theorem fromV_rd {w : World} {A : Option Addr} {c : Nat} {l : List UInt8} (ha : At w A l) (hc : l.length ≤ c) (hm : c ≤ maxLen) (lo : Nat) (h1 : lo ≤ l.length) : Rd w (fromV A l.length c lo) (l.drop lo) := by
  unfold fromV
  split
  · have e : l.drop lo = [] := List.drop_of_length_le (by omega)
    rw [e, show l.length - lo = 0 by omega]
    exact Rd.none0 w _ _ (by omega)
  · have := Rd.cut (c := c - lo) ha (i := lo) (m := l.length - lo) (by omega) (by omega) (by omega)
    rwa [List.take_of_length_le (by rw [List.length_drop]; omega)] at this
end
end Go.Proofs.Ytbhoflmdhlchlaa
