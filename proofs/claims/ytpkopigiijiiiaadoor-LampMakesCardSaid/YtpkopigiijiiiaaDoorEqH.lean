/- TWO HASHES COMPARED, of our own. -/
import Derived.Test.YtpkopigiijiiiaaDoorTa
namespace Go.Proofs.YtpkopigiijiiiaaDoor
open Go Go.RowKit
set_option linter.unusedVariables false
set_option linter.unusedSimpArgs false
theorem hcel_asInts (h : List UInt8) : hcel h = ints .u8 (h.map fun x => (x.toNat : Int)) := by
  simp [hcel, ints, bvs, Function.comp_def]
set_option maxRecDepth 100000 in
theorem eq_hash2 (a b : List UInt8) (ha : a.length = 32) (hb : b.length = 32) (w : World) : (Op.equalIn 10000 23 (.agg (hcel a)) (.agg (hcel b))).run Tryd.prog w = .ok (decide (a = b)) w := by
  have := eq_ints (P := Tryd.prog) 9998 23 5 32 .u8 Tryd.underlying23 Tryd.underlying5 Tryd.isAgg5 Tryd.sizeOf5 (a.map fun x => (x.toNat : Int)) (b.map fun x => (x.toNat : Int)) (by simp [ha]) (by simp [hb]) w
  rw [← hcel_asInts, ← hcel_asInts] at this
  rw [this]
  congr 1
  rw [Bool.eq_iff_iff]
  simp only [decide_eq_true_eq]
  constructor
  · intro h
    have h2 : (a.map fun x => (x.toNat : Int)).map (fun z : Int => UInt8.ofNat z.toNat) = (b.map fun x => (x.toNat : Int)).map (fun z : Int => UInt8.ofNat z.toNat) := by rw [h]
    simpa [List.map_map, Function.comp_def] using h2
  · rintro rfl; rfl
theorem eq_hash' (h : List UInt8) (hh : h.length = 32) (w : World) : (Op.equalIn 10000 23 (.agg (hcel h)) (.agg (hcel h))).run Tryd.prog w = .ok true w := by
  rw [eq_hash2 h h hh hh w]; simp
end Go.Proofs.YtpkopigiijiiiaaDoor
