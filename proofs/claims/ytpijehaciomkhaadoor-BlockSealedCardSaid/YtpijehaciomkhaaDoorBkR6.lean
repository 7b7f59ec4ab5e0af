/- LAYER 10, the document's: Seal. -/
import Derived.Test.YtpijehaciomkhaaDoorBkR4
import Derived.Test.YtpijehaciomkhaaDoorBkR3
namespace Go.Proofs.YtpijehaciomkhaaDoor
open Go Go.RowKit
set_option linter.unusedVariables false
set_option linter.unusedSimpArgs false
set_option linter.unusedVariables false
set_option linter.unusedSimpArgs false

theorem sl_yes {B : Blk} (h : roB B.txs = true) : slT B = { B with r := roH B.txs } := by unfold slT; rw [if_pos h]
theorem sl_no {B : Blk} (h : roB B.txs = false) : slT B = blZ := by unfold slT; rw [if_neg (by simp [h])]
theorem blc_root (B : Blk) (tv : Value) (H : HOk B.p B.r B.t B.b B.n) (x : List UInt8) (hx : x.length = 32) : ((blc B tv).toList.take 32 ++ ((hcel x).toList ++ (blc B tv).toList.drop (32 + (hcel x).size))).toArray = blc { B with r := x } tv := by
  have hp := H.p
  have hr := H.r
  rw [hcel_size, hx]
  have e : (blc B tv).toList = bvs B.p ++ (bvs B.r ++ [.int .u32 (B.t : Int), .int .u32 (B.b : Int), .int .u32 (B.n : Int)] ++ [tv]) := by simp [blc, hdl]
  rw [e, List.take_left' (by simp [hp])]
  rw [show bvs B.p ++ (bvs B.r ++ [.int .u32 (B.t : Int), .int .u32 (B.b : Int), .int .u32 (B.n : Int)] ++ [tv]) = (bvs B.p ++ bvs B.r) ++ ([.int .u32 (B.t : Int), .int .u32 (B.b : Int), .int .u32 (B.n : Int)] ++ [tv]) by simp, List.drop_left' (by simp [hp, hr])]
  simp [blc, hdl, hcel]
theorem HOk.root {B : Blk} (H : HOk B.p B.r B.t B.b B.n) {x : List UInt8} (hx : x.length = 32) : HOk B.p x B.t B.b B.n := ⟨H.p, hx, H.t, H.b, H.n⟩
theorem blAt_root {w : World} {tv : Value} {B : Blk} (h : BlAt w tv B) {x : List UInt8} (hx : x.length = 32) : BlAt w tv { B with r := x } := ⟨h.h.root hx, h.x⟩
theorem slT_ok {w : World} {tv : Value} {B : Blk} (h : BlAt w tv B) : ∃ tv', BlAt w tv' (slT B) ∧ (roB B.txs = true → tv' = tv) ∧ (roB B.txs = false → tv' = .slice none 0 0) := by
  cases hr : roB B.txs
  · exact ⟨.slice none 0 0, by rw [sl_no hr]; exact blAt_z w, (fun h => by cases h), fun _ => rfl⟩
  · exact ⟨tv, by rw [sl_yes hr]; exact blAt_root h (roH_length _), (fun _ => rfl), fun h => by cases h⟩
end Go.Proofs.YtpijehaciomkhaaDoor
