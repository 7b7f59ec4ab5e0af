/- WHAT THE STATEMENTS SHARE: Spoil turns the one block alone. -/
import Derived.Test.YtpgdfboogjapeaaDoorFreshS
import Derived.Lib.Hide
namespace Go.Proofs.YtpgdfboogjapeaaDoor
open Go Go.RowKit
set_option linter.unusedVariables false
set_option linter.unusedSimpArgs false

set_option maxHeartbeats 400000 in
theorem spoil_only (B : Nat) (v : Value) (l : List UInt8) (y : UInt8) (w : World) (hown : Own B w v l) :
    Calls Tryd.prog 26 #[v, .int .u8 (y.toNat : Int)] w fun e w' => e = .returned (.tuple #[]) ∧ Below B w w' ∧ ∀ h, v.ownBlock ≠ some h → w'.heap[h]? = w.heap[h]? := by
  rcases hown with ⟨rfl, rfl⟩ | ⟨g, full, rfl, hg, hh, hn, hm, ht⟩
  · go_enter Tryd.func26, Tryd.ntmps26
    go_wp2
    refine wp_loop_rounds 1 ?_
    rw [rounds_succ]
    go_wp2
    go_end0
    exact ⟨rfl, Below.refl _ _, fun _ _ => rfl⟩
  · unfold maxLen at hm
    go_enter Tryd.func26, Tryd.ntmps26
    go_wp2
    go_loopw [5] (fun i wr => ∃ (k : Nat) (cur : List UInt8), k ≤ full.length ∧ i = .int .i64 k ∧ cur.length = full.length ∧ wr.heap[g]? = some (.cells (bvs cur).toArray 5 (0, 0)) ∧ Below B w wr ∧ Hid (∀ h, h ≠ g → wr.heap[h]? = w.heap[h]?)) (fun i _ => full.length - (intOf i).toNat)
    case atStart => exact ⟨0, full, by omega, rfl, rfl, hh, Below.refl _ _, Lib.hid fun _ _ => rfl⟩
    case round =>
      obtain ⟨k, cur, hk, rfl, hc, hh', hb, HO⟩ := hrel
      by_cases hlt : k < full.length
      · have g1 := blk_cell hh' (k := k) (by omega)
        have f1 := blk_frozen hh' k
        obtain ⟨x, hx⟩ : ∃ x, cur[k] = x := ⟨_, rfl⟩
        rw [hx] at g1
        have HH := Lib.hid hh'
        have HC := Lib.hid hc
        clear hx hh' hc hh ht
        have hs := Lib.hid (u8_sum x y)
        go_wp2
        go_roundw
        case rel => exact ⟨k + 1, cur.set k (x + y), by omega, by go_num, by rw [List.length_set, HC.out], by rw [hs.out]; exact blk_set HH.out k (x + y), hb.setCell hg _, Lib.hid fun h hh => (heap_setCell_other _ ⟨g, k, none⟩ h _ hh).trans (HO.out h hh)⟩
        case measure => simp [intOf]; omega
      · go_wp2
        go_end0
        exact ⟨rfl, hb, fun h hh => HO.out h fun e => hh (by simp [Value.ownBlock, e])⟩
theorem spoil_one' (B : Nat) (v : Value) (l : List UInt8) (w : World) (hown : Own B w v l) :
    Calls Tryd.prog 26 #[v, .int .u8 1] w fun e w' => e = .returned (.tuple #[]) ∧ Below B w w' ∧ ∀ h, v.ownBlock ≠ some h → w'.heap[h]? = w.heap[h]? := spoil_only B v l 1 w hown
end Go.Proofs.YtpgdfboogjapeaaDoor
