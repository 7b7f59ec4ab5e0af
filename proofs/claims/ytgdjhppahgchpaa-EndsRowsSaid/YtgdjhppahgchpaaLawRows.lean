/- LAYER 1: the walk of EndsRows. -/
import Derived.Test.YtgdjhppahgchpaaLaw1
namespace Go.Proofs.Ytgdjhppahgchpaa
open Go.RowKit

set_option maxHeartbeats 1000000 in
theorem endsRows_law {w : World} (n : Nat) (hn : (n : Int) ≤ 18446744073709551615) (v : Value) (l : List UInt8) (h : Rd w v l) (hr0 : l.length ≤ 140737488351232)
    (at_ : Int) (_ : -9223372036854775808 ≤ at_) (_ : at_ ≤ 9223372036854775807) (m : Int) (_ : -9223372036854775808 ≤ m) (hm : m ≤ 9223372036854775807) :
    Calls Try.prog 4 #[.int .u64 (n : Int), v, .int .i64 at_, .int .i64 m] w fun e w' => e = .returned (.bool true) ∧ Nx w w' := by
  have hr : l.length ≤ 140737488355328 := by omega
  have H1 := Lib.hid (fun w h => getCount_any v l at_ w h hr)
  have H2 := Lib.hid (fun w h => refGetCount_any v l at_ w h hr)
  have H3 := Lib.hid (fun w h => getRow_any v l at_ m w h hr hm)
  have H4 := Lib.hid (fun w h => refGetRow_any v l at_ m w h hr hm)
  have H5 := Lib.hid (fun w => count_any n w)
  have H6 := Lib.hid (fun w => refCount_any n w hn)
  have H7 := Lib.hid (fun w h => row_any v l w h hr0)
  have H8 := Lib.hid (fun w h => refRow_any v l w h hr0)
  have e1 : ∀ x : Int, (x == x) = true := fun x => by simp
  rcases gc l at_ with ⟨N1, P1, E1⟩
  rcases gr l at_ m with ⟨L2, P2, E2⟩
  generalize countL n = L3 at *
  generalize rowL l = L4 at *
  clear hn hm
  go_enter Try.func4, Try.ntmps4
  go_wp2_with fail
  refine (H1.out w h).mono ?_
  rintro e w1 ⟨rfl, rfl⟩
  go_wp2_with fail
  refine (H2.out w h).mono ?_
  rintro e w2 ⟨rfl, b2⟩
  go_wp2_with fail
  refine (H3.out w2 (h.nx b2)).mono ?_
  rintro e w3 ⟨v3, rfl, o3, b3⟩
  have h3 := (h.nx b2).nx b3
  go_wp2_with fail
  refine (H4.out w3 h3).mono ?_
  rintro e w4 ⟨v4, rfl, o4, b4⟩
  have h4 := h3.nx b4
  go_wp2_with fail
  refine (H5.out w4).mono ?_
  rintro e w5 ⟨v5, rfl, o5, b5⟩
  have h5 := h4.nx b5
  go_wp2_with fail
  refine (H6.out w5).mono ?_
  rintro e w6 ⟨v6, rfl, o6, b6⟩
  have h6 := h5.nx b6
  go_wp2_with fail
  refine (same_yes _ _ _ _ (o5.rd.nx b6) o6.rd).mono ?_
  rintro e w7 ⟨rfl, b7⟩
  have h7 := h6.nx b7
  have r3 := (((o3.rd.nx b4).nx b5).nx b6).nx b7
  have r4 := ((o4.rd.nx b5).nx b6).nx b7
  have n7 := ((b2.trans b3).trans (b4.trans b5)).trans (b6.trans b7)
  clear o3 o4 o5 o6 b2 b3 b4 b5 b6 b7 h3 h4 h5 h6 H1 H2 H3 H4 H5 H6
  go_wp2_with fail
  refine (H7.out w7 h7).mono ?_
  rintro e w8 ⟨v8, rfl, o8, b8⟩
  go_wp2_with fail
  refine (H8.out w8 (h7.nx b8)).mono ?_
  rintro e w9 ⟨v9, rfl, o9, b9⟩
  go_wp2_with fail
  refine (same_yes _ _ _ _ (o8.rd.nx b9) o9.rd).mono ?_
  rintro e w10 ⟨rfl, b10⟩
  have r3' := ((r3.nx b8).nx b9).nx b10
  have r4' := ((r4.nx b8).nx b9).nx b10
  have n10 := (n7.trans b8).trans (b9.trans b10)
  clear o8 o9 b8 b9 b10 r3 r4 n7 H7 H8
  go_wp2_with fail
  refine (same_yes _ _ _ _ r3' r4').mono ?_
  rintro e w11 ⟨rfl, b11⟩
  go_wp2_with fail
  refine (works_any _).mono ?_
  rintro e w12 ⟨rfl, b12⟩
  go_wp2
  go_ret
  exact ⟨rfl, n10.trans (b11.trans b12)⟩
end Go.Proofs.Ytgdjhppahgchpaa
