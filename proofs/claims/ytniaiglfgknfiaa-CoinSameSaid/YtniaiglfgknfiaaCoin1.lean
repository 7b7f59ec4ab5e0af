/- CONTRACTS OF LAYER 6: number, getValue, getBase, mayBe; points and coins as cells. -/
import Derived.Test.YtniaiglfgknfiaaEnds7
import Derived.Test.YtniaiglfgknfiaaRegSep
import Derived.Test.YtniaiglfgknfiaaRegG
import Derived.Test.YtniaiglfgknfiaaRegMore
import Derived.Test.YtniaiglfgknfiaaShaSl
namespace Go.Proofs.Ytniaiglfgknfiaa
open Go Go.RowKit
set_option linter.unusedVariables false
set_option linter.unusedSimpArgs false

/-- The cells of a point. -/
def pcl (tx : List UInt8) (n h : Nat) : List Value := bvs tx ++ [.int .u16 (n : Int), .int .u32 (h : Int)]
def pcel (tx : List UInt8) (n h : Nat) : Array Value := (pcl tx n h).toArray
/-- The cells of a coin. -/
def ccel (tx : List UInt8) (n h v : Nat) (b : Bool) (lk : Value) : Array Value := (pcl tx n h ++ [.int .u64 (v : Int), .bool b, lk]).toArray
theorem pcel_size (tx : List UInt8) (n h : Nat) (ht : tx.length = 32) : (pcel tx n h).size = 34 := by simp [pcel, pcl, bvs, ht]
theorem ccel_size (tx : List UInt8) (n h v : Nat) (b : Bool) (lk : Value) (ht : tx.length = 32) : (ccel tx n h v b lk).size = 37 := by simp [ccel, pcl, bvs, ht]
theorem pcel_tx (tx : List UInt8) (n h : Nat) (j : Nat) (hj : j < tx.length) : (pcel tx n h)[j]? = some (bv tx[j]) := by
  simp [pcel, pcl, bvs, hj, List.getElem?_append_left]
theorem pcel_n (tx : List UInt8) (n h : Nat) (ht : tx.length = 32) : (pcel tx n h)[32]? = some (.int .u16 (n : Int)) := by
  simp [pcel, pcl, bvs, ht, List.getElem?_append_right]
theorem pcel_h (tx : List UInt8) (n h : Nat) (ht : tx.length = 32) : (pcel tx n h)[33]? = some (.int .u32 (h : Int)) := by
  simp [pcel, pcl, bvs, ht, List.getElem?_append_right]
theorem info_u8p : (Try.prog.info? 5).map (fun i => (i.zero, i.size, i.bytes)) = some (some (.int .u8 0), 1, 1) := by kernel_rfl

theorem cnumb_any (n : Nat) (s : Int) (w : World) : Calls Try.prog 34 #[.int .u64 (n : Int), .int .i64 s] w fun e w' => ∃ v', e = .returned v' ∧ Own w.heap.size w' v' (putL n s) ∧ Nx w w' := by
  have H := Lib.hid (put_any n s w)
  generalize putL n s = l at *
  generalize putE n s = E at *
  go_enter Try.func34, Try.ntmps34
  go_wp2_with fail
  refine H.out.mono ?_
  rintro e w1 ⟨v, rfl, o1, n1⟩
  have O1 := Lib.hid o1
  have N1 := Lib.hid n1
  clear o1 n1
  go_wp2_with fail
  go_ret
  exact ⟨_, rfl, O1.out, N1.out⟩
/-- What getValue answers. -/
def gvT (l : List UInt8) (at_ : Int) : Nat × Int × Int := if getE l.length at_ 8 ≠ 0 then (0, 0, getE l.length at_ 8) else if 1125899906842624 < getN l at_ 8 then (0, 0, 5) else (getN l at_ 8, at_ + 8, 0)
def gbT (l : List UInt8) (at_ : Int) : Bool × Int × Int := if getE l.length at_ 1 ≠ 0 then (false, 0, getE l.length at_ 1) else if 1 < getN l at_ 1 then (false, 0, 5) else (getN l at_ 1 == 1, at_ + 1, 0)
theorem getE_ok {l : List UInt8} {at_ s : Int} (h : getE l.length at_ s = 0) : 0 ≤ at_ ∧ at_ + s ≤ l.length ∧ 0 ≤ s := by
  rcases get_cases l at_ s with ⟨h1, h2, h3⟩ | ⟨h1, h4, h2, h3⟩ | ⟨h1, h4, h2, h3⟩ | ⟨i, m, rfl, rfl, hm, h1, h4, h2, h3⟩
  · rw [h2] at h; cases h
  · rw [h2] at h; cases h
  · rw [h2] at h; cases h
  · omega
set_option maxHeartbeats 1000000 in
theorem getValue_any (v : Value) (l : List UInt8) (at_ : Int) (w : World) (h : Rd w v l) (hr : l.length ≤ 140737488355328) :
    Calls Try.prog 44 #[v, .int .i64 at_] w fun e w' => e = .returned (.tuple #[.int .u64 ((gvT l at_).1 : Int), .int .i64 (gvT l at_).2.1, .int .i64 (gvT l at_).2.2]) ∧ w = w' := by
  have HG := Lib.hid (get_any v l at_ 8 w h)
  obtain ⟨A, c, rfl, -⟩ := h
  unfold gvT
  have HOK := Lib.hid (fun h => getE_ok (l := l) (at_ := at_) (s := 8) h)
  generalize getE l.length at_ 8 = E at *
  generalize getN l at_ 8 = N at *
  by_cases hE : E = 0
  · obtain ⟨p1, p2, -⟩ := HOK.out hE
    subst hE
    rw [if_neg (by simp)]
    have p3 : at_ + 8 ≤ 9223372036854775807 := by omega
    by_cases hN : 1125899906842624 < N
    · rw [if_pos hN]
      have d1 : decide ((1125899906842624 : Int) < (N : Int)) = true := decide_eq_true (by omega)
      have d2 : decide (1125899906842624 < N) = true := decide_eq_true hN
      clear hN
      go_enter Try.func44, Try.ntmps44
      go_wp2_with fail
      refine HG.out.mono ?_
      rintro e w1 ⟨rfl, rfl⟩
      go_wp2_with fail
      go_ret3
      exact ⟨rfl, rfl⟩
    · rw [if_neg hN]
      have d1 : decide ((1125899906842624 : Int) < (N : Int)) = false := decide_eq_false (by omega)
      have d2 : decide (1125899906842624 < N) = false := decide_eq_false hN
      clear hN
      go_enter Try.func44, Try.ntmps44
      go_wp2_with fail
      refine HG.out.mono ?_
      rintro e w1 ⟨rfl, rfl⟩
      go_wp2_with fail
      go_ret3
      exact ⟨rfl, rfl⟩
  · rw [if_pos hE]
    have dE : (E != 0) = true := by simp [hE]
    clear hE
    go_enter Try.func44, Try.ntmps44
    go_wp2_with fail
    refine HG.out.mono ?_
    rintro e w1 ⟨rfl, rfl⟩
    go_wp2_with fail
    go_ret3
    exact ⟨rfl, rfl⟩
set_option maxHeartbeats 1000000 in
theorem getBase_any (v : Value) (l : List UInt8) (at_ : Int) (w : World) (h : Rd w v l) (hr : l.length ≤ 140737488355328) :
    Calls Try.prog 47 #[v, .int .i64 at_] w fun e w' => e = .returned (.tuple #[.bool (gbT l at_).1, .int .i64 (gbT l at_).2.1, .int .i64 (gbT l at_).2.2]) ∧ w = w' := by
  have HG := Lib.hid (get_any v l at_ 1 w h)
  obtain ⟨A, c, rfl, -⟩ := h
  unfold gbT
  have HOK := Lib.hid (fun h => getE_ok (l := l) (at_ := at_) (s := 1) h)
  generalize getE l.length at_ 1 = E at *
  generalize getN l at_ 1 = N at *
  by_cases hE : E = 0
  · obtain ⟨p1, p2, -⟩ := HOK.out hE
    subst hE
    rw [if_neg (by simp)]
    have p3 : at_ + 1 ≤ 9223372036854775807 := by omega
    by_cases hN : 1 < N
    · rw [if_pos hN]
      have d1 : decide ((1 : Int) < (N : Int)) = true := decide_eq_true (by omega)
      have d2 : decide (1 < N) = true := decide_eq_true hN
      clear hN
      go_enter Try.func47, Try.ntmps47
      go_wp2_with fail
      refine HG.out.mono ?_
      rintro e w1 ⟨rfl, rfl⟩
      go_wp2_with fail
      go_ret3
      exact ⟨rfl, rfl⟩
    · rw [if_neg hN]
      have d1 : decide ((1 : Int) < (N : Int)) = false := decide_eq_false (by omega)
      have d2 : decide (1 < N) = false := decide_eq_false hN
      have HNE : Hid (((N : Int) == 1) = (N == 1)) := Lib.hid (by rw [Bool.eq_iff_iff, beq_iff_eq, beq_iff_eq]; omega)
      clear hN
      generalize (N == 1) = b at *
      have hne := HNE.out
      go_enter Try.func47, Try.ntmps47
      go_wp2_with fail
      refine HG.out.mono ?_
      rintro e w1 ⟨rfl, rfl⟩
      go_wp2_with fail
      go_ret3
      exact ⟨rfl, rfl⟩
  · rw [if_pos hE]
    have dE : (E != 0) = true := by simp [hE]
    clear hE
    go_enter Try.func47, Try.ntmps47
    go_wp2_with fail
    refine HG.out.mono ?_
    rintro e w1 ⟨rfl, rfl⟩
    go_wp2_with fail
    go_ret3
    exact ⟨rfl, rfl⟩
end Go.Proofs.Ytniaiglfgknfiaa
