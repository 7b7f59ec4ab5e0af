/- TEXTS OF OUR OWN, IN ONE FILE. -/
import Derived.Test.YtpijehaciomkhaaDoorTf
import Derived.Test.YtpijehaciomkhaaDoorTa
section
namespace Go.Proofs.YtpijehaciomkhaaDoor
open Go Go.RowKit
set_option linter.unusedVariables false
set_option linter.unusedSimpArgs false

theorem gv_cases (l : List UInt8) (at_ : Int) : (getE l.length at_ 8 ≠ 0 ∧ gvT l at_ = (0, 0, getE l.length at_ 8)) ∨
    (getE l.length at_ 8 = 0 ∧ ((1125899906842624 < getN l at_ 8 ∧ gvT l at_ = (0, 0, 5)) ∨ (¬ 1125899906842624 < getN l at_ 8 ∧ gvT l at_ = (getN l at_ 8, at_ + 8, 0)))) := by
  unfold gvT
  by_cases h1 : getE l.length at_ 8 = 0
  · right
    refine ⟨h1, ?_⟩
    rw [if_neg (by simpa using h1)]
    by_cases h2 : 1125899906842624 < getN l at_ 8
    · left; exact ⟨h2, if_pos h2⟩
    · right; exact ⟨h2, if_neg h2⟩
  · left
    exact ⟨h1, if_pos h1⟩
theorem gb_cases (l : List UInt8) (at_ : Int) : (getE l.length at_ 1 ≠ 0 ∧ gbT l at_ = (false, 0, getE l.length at_ 1)) ∨
    (getE l.length at_ 1 = 0 ∧ ((1 < getN l at_ 1 ∧ gbT l at_ = (false, 0, 5)) ∨ (¬ 1 < getN l at_ 1 ∧ gbT l at_ = (getN l at_ 1 == 1, at_ + 1, 0)))) := by
  unfold gbT
  by_cases h1 : getE l.length at_ 1 = 0
  · right
    refine ⟨h1, ?_⟩
    rw [if_neg (by simpa using h1)]
    by_cases h2 : 1 < getN l at_ 1
    · left; exact ⟨h2, if_pos h2⟩
    · right; exact ⟨h2, if_neg h2⟩
  · left
    exact ⟨h1, if_pos h1⟩
end Go.Proofs.YtpijehaciomkhaaDoor
end

section
namespace Go.Proofs.YtpijehaciomkhaaDoor
open Go Go.RowKit
set_option linter.unusedVariables false
set_option linter.unusedSimpArgs false

/-- The bytes of a point's transaction, as far as they are read. -/
def fillX (X : List UInt8) (k : Nat) : List UInt8 := X.take k ++ List.replicate (32 - k) 0
theorem fillX_zero (X : List UInt8) : fillX X 0 = Z32 := by simp [fillX, Z32]
theorem fillX_all (X : List UInt8) (h : X.length = 32) : fillX X 32 = X := by simp [fillX, List.take_of_length_le (Nat.le_of_eq h)]
theorem fillX_length (X : List UInt8) (k : Nat) (h : X.length = 32) (hk : k ≤ 32) : (fillX X k).length = 32 := by
  simp [fillX, h]; omega
theorem fill_set (X : List UInt8) (k : Nat) (hX : X.length = 32) (hk : k < 32) (T : List Value) : (bvs (fillX X k) ++ T).set k (bv (X[k]'(by omega))) = bvs (fillX X (k + 1)) ++ T := by
  have e1 : fillX X k = X.take k ++ (0 :: List.replicate (31 - k) 0) := by unfold fillX; rw [show 32 - k = (31 - k) + 1 by omega, List.replicate_succ]
  have e2 : fillX X (k + 1) = X.take k ++ (X[k]'(by omega) :: List.replicate (31 - k) 0) := by
    unfold fillX
    rw [List.take_succ_eq_append_getElem (by omega), List.append_assoc, show 32 - (k + 1) = 31 - k by omega]
    rfl
  rw [e1, e2]
  simp only [bvs, List.map_append, List.map_cons, List.append_assoc, List.cons_append]
  rw [List.set_append_right _ _ (by simp; omega)]
  have e3 : k - (List.map bv (X.take k)).length = 0 := by simp; omega
  rw [e3]
  rfl
theorem pcel_set (X : List UInt8) (k : Nat) (hX : X.length = 32) (hk : k < 32) (n h : Nat) : (pcel (fillX X k) n h).setIfInBounds k (bv (X[k]'(by omega))) = pcel (fillX X (k + 1)) n h := by
  unfold pcel pcl
  rw [List.setIfInBounds_toArray, fill_set X k hX hk]
theorem pcel_upd0 (x0 x1 x2 x3 x4 x5 x6 x7 x8 x9 x10 x11 x12 x13 x14 x15 x16 x17 x18 x19 x20 x21 x22 x23 x24 x25 x26 x27 x28 x29 x30 x31 : UInt8) (N H : Nat) : ((pcel [x0, x1, x2, x3, x4, x5, x6, x7, x8, x9, x10, x11, x12, x13, x14, x15, x16, x17, x18, x19, x20, x21, x22, x23, x24, x25, x26, x27, x28, x29, x30, x31] 0 0).setIfInBounds 32 (.int .u16 (N : Int))).setIfInBounds 33 (.int .u32 (H : Int)) = pcel [x0, x1, x2, x3, x4, x5, x6, x7, x8, x9, x10, x11, x12, x13, x14, x15, x16, x17, x18, x19, x20, x21, x22, x23, x24, x25, x26, x27, x28, x29, x30, x31] N H := by kernel_rfl
theorem pcel_upd (X : List UInt8) (hX : X.length = 32) (N H : Nat) : ((pcel X 0 0).setIfInBounds 32 (.int .u16 (N : Int))).setIfInBounds 33 (.int .u32 (H : Int)) = pcel X N H := by
  obtain ⟨x0, x1, x2, x3, x4, x5, x6, x7, x8, x9, x10, x11, x12, x13, x14, x15, x16, x17, x18, x19, x20, x21, x22, x23, x24, x25, x26, x27, x28, x29, x30, x31, rfl⟩ := list32 X hX
  exact pcel_upd0 x0 x1 x2 x3 x4 x5 x6 x7 x8 x9 x10 x11 x12 x13 x14 x15 x16 x17 x18 x19 x20 x21 x22 x23 x24 x25 x26 x27 x28 x29 x30 x31 N H

end Go.Proofs.YtpijehaciomkhaaDoor
end

section
namespace Go.Proofs.YtpijehaciomkhaaDoor
open Go Go.RowKit
set_option linter.unusedVariables false
set_option linter.unusedSimpArgs false

theorem getE_ok1 {l : List UInt8} {at_ : Int} (h : getE l.length at_ 1 = 0) : 0 ≤ at_ ∧ at_ + 1 ≤ l.length := by
  obtain ⟨h1, h2, -⟩ := getE_ok h
  exact ⟨h1, h2⟩
end Go.Proofs.YtpijehaciomkhaaDoor
end

section
namespace Go.Proofs.YtpijehaciomkhaaDoor
open Go Go.RowKit
set_option linter.unusedVariables false
set_option linter.unusedSimpArgs false

theorem gr_le (l : List UInt8) (at_ most : Int) (h : (gr l at_ most).2.2 = 0) : (gr l at_ most).2.1 ≤ l.length ∧ 0 ≤ (gr l at_ most).2.1 := by
  obtain ⟨n, p, E, hg, ⟨h1, h2⟩ | ⟨rfl, ⟨h1, h2⟩ | ⟨h1, h3, h2⟩ | ⟨h1, h3, h4, h2⟩ | ⟨h1, h3, i, rfl, h4, h2⟩⟩⟩ := gr_cases l at_ most
  all_goals rw [h2] at h ⊢
  · exact absurd h h1
  · cases h
  · cases h
  · exact absurd h h4
  · dsimp only; omega
theorem gcT_p (l : List UInt8) (at_ : Int) (h : (gcT l at_).e = 0) : (gcT l at_).p ≤ l.length := by
  unfold gcT at h ⊢
  split at h
  · rename_i k; exact absurd h k
  split at h
  · rename_i k; exact absurd h k
  split at h
  · rename_i k; exact absurd h k
  split at h
  · rename_i k; exact absurd h k
  rename_i k1 k2 k3 k4
  rw [if_neg k1, if_neg k2, if_neg k3, if_neg k4]
  exact (gr_le l _ 100 (by simpa using k4)).1
end Go.Proofs.YtpijehaciomkhaaDoor
end

section
namespace Go.Proofs.YtpijehaciomkhaaDoor
open Go Go.RowKit
set_option linter.unusedVariables false
set_option linter.unusedSimpArgs false

def txc (l : List UInt8) : Array Value := (bvs l).toArray
theorem txc_asInts (h : List UInt8) : txc h = ints .u8 (h.map fun x => (x.toNat : Int)) := by
  simp [txc, ints, bvs, Function.comp_def]
set_option maxRecDepth 100000 in
theorem eq_point2 (tx ty : List UInt8) (n h m k : Nat) (hx : tx.length = 32) (hy : ty.length = 32) (w : World) :
    (Op.equalIn 10000 42 (.agg (pcel tx n h)) (.agg (pcel ty m k))).run Tryd.prog w = .ok (decide (tx = ty) && (decide (n = m) && decide (h = k))) w := by
  have hn : ∀ a b : Nat, ((a : Int) == (b : Int)) = decide (a = b) := fun a b => by rw [Bool.eq_iff_iff, beq_iff_eq, decide_eq_true_iff]; omega
  have hag : ∀ w, (isAgg 23).run Tryd.prog w = .ok true w := fun w => by kernel_rfl
  have hsz : ∀ w, (sizeOf 23).run Tryd.prog w = .ok 32 w := fun w => by kernel_rfl
  have ha16 : ∀ w, (isAgg 40).run Tryd.prog w = .ok false w := fun w => by kernel_rfl
  have ha32 : ∀ w, (isAgg 24).run Tryd.prog w = .ok false w := fun w => by kernel_rfl
  have ex : ∀ (t : List UInt8) (n h : Nat), t.length = 32 → (pcel t n h).extract 0 32 = txc t := fun t n h ht => by
    simp [pcel, pcl, txc, List.extract_toArray, List.take_append, bvs_length, ht, List.take_of_length_le (Nat.le_of_eq (show (bvs t).length = 32 by rw [bvs_length, ht]))]
  have p1 : ∀ (t : List UInt8) (n h : Nat) (w : World), t.length = 32 → (part 23 (pcel t n h) 0).run Tryd.prog w = .ok (.agg (txc t)) w := fun t n h w ht => by
    simp [part, hag, hsz, Sem.run_bind, ex t n h ht, pcel_size t n h ht]
  have p2 : ∀ (t : List UInt8) (n h : Nat) (w : World), t.length = 32 → (part 40 (pcel t n h) 32).run Tryd.prog w = .ok (.int .u16 n) w := fun t n h w ht => by
    simp [part, ha16, Sem.run_bind, pcel_n t n h ht]
  have p3 : ∀ (t : List UInt8) (n h : Nat) (w : World), t.length = 32 → (part 24 (pcel t n h) 33).run Tryd.prog w = .ok (.int .u32 h) w := fun t n h w ht => by
    simp [part, ha32, Sem.run_bind, pcel_h t n h ht]
  have e1 : ∀ w, (Op.equalIn 9999 23 (.agg (txc tx)) (.agg (txc ty))).run Tryd.prog w = .ok (decide (tx = ty)) w := fun w => by
    have := eq_ints (P := Tryd.prog) 9997 23 5 32 .u8 Tryd.underlying23 Tryd.underlying5 Tryd.isAgg5 Tryd.sizeOf5 (tx.map fun x => (x.toNat : Int)) (ty.map fun x => (x.toNat : Int)) (by simp [hx]) (by simp [hy]) w
    rw [← txc_asInts, ← txc_asInts] at this
    rw [this]
    congr 1
    rw [Bool.eq_iff_iff]
    simp only [decide_eq_true_eq]
    constructor
    · intro h
      have h2 : (tx.map fun x => (x.toNat : Int)).map (fun z : Int => UInt8.ofNat z.toNat) = (ty.map fun x => (x.toNat : Int)).map (fun z : Int => UInt8.ofNat z.toNat) := by rw [h]
      simpa [List.map_map, Function.comp_def] using h2
    · rintro rfl; rfl
  rw [run_equalIn_struct w 9999 42 _ _ (by kernel_rfl) (by kernel_rfl)]
  simp only [Program.fieldsOf, Tryd.underlying42, Op.eqFields]
  have e2 : ∀ w, (Op.equalIn 9999 40 (.int .u16 n) (.int .u16 m)).run Tryd.prog w = .ok (decide (n = m)) w := fun w => by
    rw [run_equalIn_int w 9998 40 .u16 .u16 _ _ Tryd.underlying40, hn]
  have e3 : ∀ w, (Op.equalIn 9999 24 (.int .u32 h) (.int .u32 k)).run Tryd.prog w = .ok (decide (h = k)) w := fun w => by
    rw [run_equalIn_int w 9998 24 .u32 .u32 _ _ Tryd.underlying24, hn]
  simp only [Sem.run_ite, Sem.run_bind, p1 tx n h _ hx, p1 ty m k _ hy, p2 tx n h _ hx, p2 ty m k _ hy, p3 tx n h _ hx, p3 ty m k _ hy, e1, e2, e3, Result.andThen_ok, Sem.run_pure, ne_eq, String.reduceEq, not_false_eq_true, if_true]
  rcases decide (tx = ty) with _ | _ <;> rcases decide (n = m) with _ | _ <;> rcases decide (h = k) with _ | _ <;> rfl
end Go.Proofs.YtpijehaciomkhaaDoor
end

section
namespace Go.Proofs.YtpijehaciomkhaaDoor
open Go Go.RowKit
set_option linter.unusedVariables false
set_option linter.unusedSimpArgs false

theorem run_neqp {P : Program} {w : World} {a : Act} {o : Oper} (T : TypeId) (x y : Operand) (T' : TypeId) (ho : o.op = .binOp .neq T x y T') (X Y : Array Value)
    (hx : a.eval x = .agg X) (hy : a.eval y = .agg Y) (hgt : P.eqGuardType P.depth T = false) (b : Bool) (heq : (Op.equalIn 10000 T (.agg X) (.agg Y)).run P w = .ok b w) : (execOp a.eval o).run P w = .ok (.value (.bool (!b))) w := by
  unfold execOp
  simp only [ho]
  have e1 : (eqGuard .neq T x y (a.eval x) (a.eval y)).run P w = .ok () w := by
    rw [hx, hy, run_eqGuard_agg w .neq T x y X Y hgt]
  have e2 : (binOp .neq T (a.eval x) (a.eval y)).run P w = .ok (.bool (!b)) w := by
    rw [hx, hy, run_neq_struct w T X Y, heq]
    rfl
  simp only [Sem.run_bind, e1, e2, Result.andThen_ok, Sem.run_pure]

end Go.Proofs.YtpijehaciomkhaaDoor
end
