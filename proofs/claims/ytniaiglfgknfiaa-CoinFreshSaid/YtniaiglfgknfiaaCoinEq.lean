/- LAYER 6: two points compared. -/
import Derived.Test.YtniaiglfgknfiaaCoinR4
import Derived.Test.YtniaiglfgknfiaaArrEq
namespace Go.Proofs.Ytniaiglfgknfiaa
open Go Go.RowKit
set_option linter.unusedVariables false
set_option linter.unusedSimpArgs false

def txc (l : List UInt8) : Array Value := (bvs l).toArray
theorem txc_asInts (h : List UInt8) : txc h = ints .u8 (h.map fun x => (x.toNat : Int)) := by
  simp [txc, ints, bvs, Function.comp_def]
theorem eq_point2 (tx ty : List UInt8) (n h m k : Nat) (hx : tx.length = 32) (hy : ty.length = 32) (w : World) :
    (Op.equalIn 10000 27 (.agg (pcel tx n h)) (.agg (pcel ty m k))).run Try.prog w = .ok (decide (tx = ty) && (decide (n = m) && decide (h = k))) w := by
  have hn : ∀ a b : Nat, ((a : Int) == (b : Int)) = decide (a = b) := fun a b => by rw [Bool.eq_iff_iff, beq_iff_eq, decide_eq_true_iff]; omega
  have hag : ∀ w, (isAgg 23).run Try.prog w = .ok true w := fun w => by kernel_rfl
  have hsz : ∀ w, (sizeOf 23).run Try.prog w = .ok 32 w := fun w => by kernel_rfl
  have ha16 : ∀ w, (isAgg 24).run Try.prog w = .ok false w := fun w => by kernel_rfl
  have ha32 : ∀ w, (isAgg 25).run Try.prog w = .ok false w := fun w => by kernel_rfl
  have ex : ∀ (t : List UInt8) (n h : Nat), t.length = 32 → (pcel t n h).extract 0 32 = txc t := fun t n h ht => by
    simp [pcel, pcl, txc, List.extract_toArray, List.take_append, bvs_length, ht, List.take_of_length_le (Nat.le_of_eq (show (bvs t).length = 32 by rw [bvs_length, ht]))]
  have p1 : ∀ (t : List UInt8) (n h : Nat) (w : World), t.length = 32 → (part 23 (pcel t n h) 0).run Try.prog w = .ok (.agg (txc t)) w := fun t n h w ht => by
    simp [part, hag, hsz, Sem.run_bind, ex t n h ht, pcel_size t n h ht]
  have p2 : ∀ (t : List UInt8) (n h : Nat) (w : World), t.length = 32 → (part 24 (pcel t n h) 32).run Try.prog w = .ok (.int .u16 n) w := fun t n h w ht => by
    simp [part, ha16, Sem.run_bind, pcel_n t n h ht]
  have p3 : ∀ (t : List UInt8) (n h : Nat) (w : World), t.length = 32 → (part 25 (pcel t n h) 33).run Try.prog w = .ok (.int .u32 h) w := fun t n h w ht => by
    simp [part, ha32, Sem.run_bind, pcel_h t n h ht]
  have e1 : ∀ w, (Op.equalIn 9999 23 (.agg (txc tx)) (.agg (txc ty))).run Try.prog w = .ok (decide (tx = ty)) w := fun w => by
    have := eq_ints (P := Try.prog) 9997 23 5 32 .u8 Try.underlying23 Try.underlying5 Try.isAgg5 Try.sizeOf5 (tx.map fun x => (x.toNat : Int)) (ty.map fun x => (x.toNat : Int)) (by simp [hx]) (by simp [hy]) w
    rw [← txc_asInts, ← txc_asInts] at this
    rw [this]
    congr 1
    rw [Bool.eq_iff_iff]
    simp only [decide_eq_true_eq]
    constructor
    · intro h
      have h2 : (tx.map fun x => (x.toNat : Int)).map (fun z : Int => UInt8.ofNat z.toNat) = (ty.map fun x => (x.toNat : Int)).map (fun z : Int => UInt8.ofNat z.toNat) := by rw [h]
      simpa [List.map_map, Function.comp_def] using h2
    · rintro rfl; rfl
  rw [run_equalIn_struct w 9999 27 _ _ (by kernel_rfl) (by kernel_rfl)]
  simp only [Program.fieldsOf, Try.underlying27, Op.eqFields]
  have e2 : ∀ w, (Op.equalIn 9999 24 (.int .u16 n) (.int .u16 m)).run Try.prog w = .ok (decide (n = m)) w := fun w => by
    rw [run_equalIn_int w 9998 24 .u16 .u16 _ _ Try.underlying24, hn]
  have e3 : ∀ w, (Op.equalIn 9999 25 (.int .u32 h) (.int .u32 k)).run Try.prog w = .ok (decide (h = k)) w := fun w => by
    rw [run_equalIn_int w 9998 25 .u32 .u32 _ _ Try.underlying25, hn]
  simp only [Sem.run_ite, Sem.run_bind, p1 tx n h _ hx, p1 ty m k _ hy, p2 tx n h _ hx, p2 ty m k _ hy, p3 tx n h _ hx, p3 ty m k _ hy, e1, e2, e3, Result.andThen_ok, Sem.run_pure, ne_eq, String.reduceEq, not_false_eq_true, if_true]
  rcases decide (tx = ty) with _ | _ <;> rcases decide (n = m) with _ | _ <;> rcases decide (h = k) with _ | _ <;> rfl
end Go.Proofs.Ytniaiglfgknfiaa
