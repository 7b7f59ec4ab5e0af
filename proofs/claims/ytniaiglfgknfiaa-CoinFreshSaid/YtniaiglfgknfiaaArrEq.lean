/- ARRAYS OF INTEGERS, COMPARED, of our own: they are alike just if their lists are. -/
import Derived.Test.YtniaiglfgknfiaaMore2
import Derived.Laws.StructEq
namespace Go.Proofs.Ytniaiglfgknfiaa
open Go.RowKit
set_option linter.unusedVariables false
set_option linter.unusedSimpArgs false
section
variable {P : Program}

def ints (k : IntKind) (xs : List Int) : Array Value := (xs.map (Value.int k)).toArray
theorem ints_get (k : IntKind) (xs : List Int) (i : Nat) (h : i < xs.length) : (ints k xs)[i]? = some (.int k xs[i]) := by
  simp [ints, h]

theorem eq_ints (d : Nat) (t e : TypeId) (n : Nat) (k : IntKind) (ht : P.underlying t = some (.array n e)) (he : P.underlying e = some (.int k)) (hag : ∀ w, (isAgg e).run P w = .ok false w) (hsz : ∀ w, (sizeOf e).run P w = .ok 1 w)
    (xs ys : List Int) (hx : xs.length = n) (hy : ys.length = n) (w : World) :
    (Op.equalIn (d + 2) t (.agg (ints k xs)) (.agg (ints k ys))).run P w = .ok (decide (xs = ys)) w := by
  rw [Op.equalIn]
  simp only [Sem.run_bind, run_underlying ht, Result.andThen_ok, hsz]
  simp only [Std.Legacy.Range.forIn_eq_forIn_range', Std.Legacy.Range.size, Nat.sub_zero, Nat.add_one_sub_one, Nat.div_one]
  obtain ⟨j, m, hjm, hj0, hm0⟩ : ∃ j m : Nat, j + m = n ∧ 0 = j ∧ m = n := ⟨0, n, by omega, rfl, rfl⟩
  have htk : xs.take j = ys.take j := by rw [← hj0]; simp
  rw [hj0]
  rw [show List.range' j n = List.range' j m by rw [hm0]]
  clear hm0 hj0
  induction m generalizing j with
  | zero =>
    have : xs = ys := by
      have h1 : j = n := by omega
      rw [h1, List.take_of_length_le (by omega), List.take_of_length_le (by omega)] at htk
      exact htk
    simp [this]
  | succ m ih =>
    have hjx : j < xs.length := by omega
    have hjy : j < ys.length := by omega
    have p1 : ∀ w, (part e (ints k xs) (j * 1)).run P w = .ok (.int k xs[j]) w := by
      intro w; simp [part, hag, ints_get k xs j hjx]
    have p2 : ∀ w, (part e (ints k ys) (j * 1)).run P w = .ok (.int k ys[j]) w := by
      intro w; simp [part, hag, ints_get k ys j hjy]
    rw [List.range'_succ]
    simp only [List.forIn_cons, Sem.run_bind, p1, p2, Result.andThen_ok, run_equalIn_int w d e k k _ _ he]
    by_cases hv : xs[j] = ys[j]
    · have hb : (xs[j] == ys[j]) = true := by simp [hv]
      simp only [hb, Bool.not_true, Bool.false_eq_true, if_false, Sem.run_pure, Result.andThen_ok]
      exact ih (j + 1) (by omega) (by rw [List.take_succ_eq_append_getElem hjx, List.take_succ_eq_append_getElem hjy, htk, hv])
    · have hb : (xs[j] == ys[j]) = false := by simp [hv]
      have hne : xs ≠ ys := fun h => hv (by subst h; rfl)
      simp [hb, hne]
end
end Go.Proofs.Ytniaiglfgknfiaa
