/- CONTRACTS OF WHAT THE STATEMENTS SHARE: Wide, Spoil, Left. -/
import Derived.Test.YtejeekbpeinioaaGreatDoorTa
namespace Go.Proofs.YtejeekbpeinioaaGreatDoor
open Go.RowKit
set_option linter.unusedVariables false
set_option linter.unusedSimpArgs false

theorem info_u8f : (Tryz.prog.info? 5).map (fun i => (i.zero, i.size, i.bytes)) = some (some (.int .u8 0), 1, 1) := by kernel_rfl

/-- A byte, moved on by another one. -/
theorem u8_sum (x y : UInt8) : (( x.toNat : Int) + (y.toNat : Int)) % 256 = ((x + y).toNat : Int) := by
  rw [UInt8.toNat_add]; omega

set_option maxHeartbeats 400000 in
theorem spoil_any (B : Nat) (v : Value) (l : List UInt8) (y : UInt8) (w : World) (hown : Own B w v l) :
    Calls Tryz.prog 26 #[v, .int .u8 (y.toNat : Int)] w fun e w' => e = .returned (.tuple #[]) ∧ Below B w w' := by
  rcases hown with ⟨rfl, rfl⟩ | ⟨g, full, rfl, hg, hh, hn, hm, ht⟩
  · go_enter Tryz.func26, Tryz.ntmps26
    go_wp2
    refine wp_loop_rounds 1 ?_
    rw [rounds_succ]
    go_wp2
    go_end0
    exact ⟨rfl, Below.refl _ _⟩
  · unfold maxLen at hm
    go_enter Tryz.func26, Tryz.ntmps26
    go_wp2
    go_loopw [5] (fun i wr => ∃ (k : Nat) (cur : List UInt8), k ≤ full.length ∧ i = .int .i64 k ∧ cur.length = full.length ∧ wr.heap[g]? = some (.cells (bvs cur).toArray 5 (0, 0)) ∧ Below B w wr) (fun i _ => full.length - (intOf i).toNat)
    case atStart => exact ⟨0, full, by omega, rfl, rfl, hh, Below.refl _ _⟩
    case round =>
      obtain ⟨k, cur, hk, rfl, hc, hh', hb⟩ := hrel
      by_cases hlt : k < full.length
      · have g1 := blk_cell hh' (k := k) (by omega)
        have f1 := blk_frozen hh' k
        obtain ⟨x, hx⟩ : ∃ x, cur[k] = x := ⟨_, rfl⟩
        rw [hx] at g1
        have HH := Lib.hid hh'
        have HC := Lib.hid hc
        clear hx hh' hc hh ht
        have hs := Lib.hid (u8_sum x y)
        go_wp2
        go_roundw
        case rel => exact ⟨k + 1, cur.set k (x + y), by omega, by go_num, by rw [List.length_set, HC.out], by rw [hs.out]; exact blk_set HH.out k (x + y), hb.setCell hg _⟩
        case measure => simp [intOf]; omega
      · go_wp2
        go_end0
        exact ⟨rfl, hb⟩

/-- What Wide makes: the same bytes, and 7, 7, 7 behind them in its own memory. -/
def WideAt (B : Nat) (w : World) (v : Value) (l : List UInt8) : Prop :=
  ∃ g, v = .slice (some ⟨g, 0, none⟩) l.length (l.length + 3) ∧ B ≤ g ∧ w.heap[g]? = some (.cells (bvs (l ++ [7, 7, 7])).toArray 5 (0, 0))
theorem WideAt.nx {B : Nat} {w w' : World} {v : Value} {l : List UInt8} (h : WideAt B w v l) (k : Nx w w') : WideAt B w' v l := by
  obtain ⟨g, rfl, hg, hh⟩ := h
  exact ⟨g, rfl, hg, k.blk hh⟩
theorem WideAt.rd {B : Nat} {w : World} {v : Value} {l : List UInt8} (h : WideAt B w v l) (hl : l.length ≤ 140737488355328) : Rd w v l := by
  obtain ⟨g, rfl, hg, hh⟩ := h
  have := at_of_block hh (n := l.length) (by simp)
  rw [List.take_left] at this
  exact ⟨_, _, rfl, by omega, by simp only [maxLen]; omega, this⟩

set_option maxHeartbeats 400000 in
theorem wide_any (v : Value) (l : List UInt8) (w : World) (h : Rd w v l) (hr : l.length ≤ 140737488355328) :
    Calls Tryz.prog 25 #[v] w fun e w' => ∃ v', e = .returned v' ∧ WideAt w.heap.size w' v' l ∧ Nx w w' := by
  have hrd := h
  obtain ⟨A, c, rfl, hc, hm, ha⟩ := h
  have hmk := run_mk (P := Tryz.prog) 32 Tryz.underlying32 info_u8f .i64 .i64 (l.length + 3) (by omega)
  rw [show ((l.length + 3 : Nat) : Int) = (l.length : Int) + 3 by omega] at hmk
  go_enter Tryz.func25, Tryz.ntmps25
  go_wp2
  go_loopw [4] (fun i wr => ∃ (k : Nat) (cur : List UInt8), k ≤ l.length ∧ i = .int .i64 k ∧ Hid (cur.length = l.length + 3 ∧ cur.take k = l.take k) ∧ wr.heap[w.heap.size]? = some (.cells (bvs cur).toArray 5 (0, 0)) ∧ Nx w wr) (fun i _ => l.length - (intOf i).toNat)
  case atStart => exact ⟨0, zeros (l.length + 3), by omega, rfl, ⟨zeros_length _, by simp⟩, heap_alloc_new w _, (Nx.refl w).alloc _⟩
  case round =>
    obtain ⟨k, cur, hk, rfl, HC, hh, hb⟩ := hrel
    by_cases hlt : k < l.length
    · obtain ⟨A', c', hv, _, _, ha'⟩ := hrd.nx hb
      obtain ⟨b, o, hA, hbb, hcc⟩ := ha' (by omega)
      simp at hv
      obtain ⟨rfl, rfl⟩ := hv
      subst hA
      have g1 := hcc k hlt
      obtain ⟨x, hx⟩ : ∃ x, l[k] = x := ⟨_, rfl⟩
      rw [hx] at g1
      have HX := Lib.hid hx
      have hk2 := HC.out.1
      have g2 := blk_cell hh (k := k) (by omega)
      obtain ⟨y, hy⟩ : ∃ y, cur[k]'(by omega) = y := ⟨_, rfl⟩
      rw [hy] at g2
      have f2 := blk_frozen hh k
      have HH := Lib.hid hh
      have hlt3 : (k : Int) < (l.length : Int) + 3 := by omega
      clear hcc ha' ha hx hh hk2 hy hmk
      go_wp2
      go_roundw
      case rel => exact ⟨k + 1, cur.set k x, by omega, by go_num, ⟨by rw [List.length_set]; exact HC.out.1, by rw [take_set_snoc _ _ _ (by have := HC.out.1; omega), HC.out.2, List.take_succ_eq_append_getElem hlt, HX.out]⟩, blk_set HH.out k x, Below.setCell hb (Nat.le_refl _) _⟩
      case measure => simp [intOf]; omega
    · obtain rfl : k = l.length := by omega
      clear hmk ha
      go_wp2
      go_loopw [5] (fun i wr => ∃ (q : Nat) (cur : List UInt8), l.length ≤ q ∧ q ≤ l.length + 3 ∧ i = .int .i64 q ∧ Hid (cur.length = l.length + 3 ∧ cur.take q = l ++ List.replicate (q - l.length) 7) ∧ wr.heap[w.heap.size]? = some (.cells (bvs cur).toArray 5 (0, 0)) ∧ Nx w wr) (fun i _ => l.length + 3 - (intOf i).toNat)
      case atStart => exact ⟨l.length, cur, by omega, by omega, rfl, ⟨HC.out.1, by rw [HC.out.2]; simp⟩, hh, hb⟩
      case round =>
        clear HC hh hb
        obtain ⟨q, cur, hq1, hq2, rfl, HC, hh, hb⟩ := hrel
        by_cases hlt2 : q < l.length + 3
        · have hk2 := HC.out.1
          have g2 := blk_cell hh (k := q) (by omega)
          obtain ⟨y, hy⟩ : ∃ y, cur[q]'(by omega) = y := ⟨_, rfl⟩
          rw [hy] at g2
          have f2 := blk_frozen hh q
          have HH := Lib.hid hh
          have hlt3 : (q : Int) < (l.length : Int) + 3 := by omega
          clear hh hk2 hy
          go_wp2
          go_roundw
          case rel =>
            have e1 : q + 1 - l.length = (q - l.length) + 1 := by omega
            exact ⟨q + 1, cur.set q 7, by omega, by omega, by go_num, ⟨by rw [List.length_set]; exact HC.out.1, by rw [take_set_snoc _ _ _ (by have := HC.out.1; omega), HC.out.2, e1, List.replicate_succ', List.append_assoc]⟩, blk_set HH.out q 7, Below.setCell hb (Nat.le_refl _) _⟩
          case measure => simp [intOf]; omega
        · obtain rfl : q = l.length + 3 := by omega
          have hcur : cur = l ++ [7, 7, 7] := by
            have h1 := HC.out.2
            rw [List.take_of_length_le (by rw [HC.out.1]; exact Nat.le_refl _), show l.length + 3 - l.length = 3 by omega] at h1
            exact h1
          subst hcur
          have HH := Lib.hid hh
          clear hh HC
          go_wp2
          go_ret
          exact ⟨_, rfl, ⟨_, rfl, Nat.le_refl _, HH.out⟩, hb⟩

set_option maxHeartbeats 400000 in
theorem left_any (B : Nat) (v vb : Value) (l : List UInt8) (w : World) (h : WideAt B w v l) (hb : Rd w vb l) (hr : l.length ≤ 140737488355328) :
    Calls Tryz.prog 27 #[v, vb] w fun e w' => e = .returned (.bool true) ∧ Nx w w' := by
  have hrd := h.rd hr
  obtain ⟨g, rfl, hg, hh⟩ := h
  go_enter Tryz.func27, Tryz.ntmps27
  go_wp2_with fail
  refine (same_yes _ _ l w hrd hb).mono ?_
  rintro e w1 ⟨rfl, b1⟩
  have hh1 := Lib.hid (b1.blk hh)
  clear hh
  have hlt : ¬ (l.length : Int) + 3 < (l.length : Int) + 3 := by omega
  go_wp2
  go_loop [6] (fun i => ∃ q : Nat, l.length ≤ q ∧ q ≤ l.length + 3 ∧ i = .int .i64 q) (fun i => l.length + 3 - (intOf i).toNat)
  case atStart => exact ⟨l.length, by omega, by omega, rfl⟩
  case round =>
    obtain ⟨q, hq1, hq2, rfl⟩ := hrel
    by_cases hlt2 : q < l.length + 3
    · have g2 := blk_cell hh1.out (k := q) (by simp; omega)
      have hv : (l ++ [7, 7, 7])[q]'(by simp; omega) = (7 : UInt8) := by
        rw [List.getElem_append_right hq1]
        have h3 : q - l.length = 0 ∨ q - l.length = 1 ∨ q - l.length = 2 := by omega
        rcases h3 with h3 | h3 | h3 <;> simp [h3]
      rw [hv] at g2
      have hlt3 : (q : Int) < (l.length : Int) + 3 := by omega
      clear hv
      go_wp2
      go_round
      case rel => exact ⟨q + 1, by omega, by omega, by go_num⟩
      case measure => simp [intOf]; omega
    · obtain rfl : q = l.length + 3 := by omega
      go_wp2
      go_ret
      exact ⟨rfl, b1⟩
end Go.Proofs.YtejeekbpeinioaaGreatDoor
