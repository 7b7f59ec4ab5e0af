/- LAYER 1: the walk of EndsNumbers. -/
import Derived.Test.YtgdjhppahgchpaaLaw1
namespace Go.Proofs.Ytgdjhppahgchpaa
open Go.RowKit

set_option maxHeartbeats 1000000 in
theorem endsNumbers_law {w : World} (n : Nat) (hn : (n : Int) ≤ 18446744073709551615) (s : Int) (_ : -9223372036854775808 ≤ s) (_ : s ≤ 9223372036854775807) (v : Value) (l : List UInt8) (h : Rd w v l) (hr0 : l.length ≤ 140737488351232)
    (at_ : Int) (_ : -9223372036854775808 ≤ at_) (_ : at_ ≤ 9223372036854775807) (m : Int) (_ : -9223372036854775808 ≤ m) (_ : m ≤ 9223372036854775807) :
    Calls Try.prog 3 #[.int .u64 (n : Int), .int .i64 s, v, .int .i64 at_, .int .i64 m] w fun e w' => e = .returned (.bool true) ∧ Nx w w' := by
  have hr : l.length ≤ 140737488355328 := by omega
  have H1 := Lib.hid (fun w => put_any n s w)
  have H2 := Lib.hid (fun w => refPut_any n s w hn)
  have H3 := Lib.hid (fun w h => get_any v l at_ s w h)
  have H4 := Lib.hid (fun w h => refGet_any v l at_ s w h hr)
  have H5 := Lib.hid (fun w h => part_any v l at_ m w h hr)
  have H6 := Lib.hid (fun w h => refPart_any v l at_ m w h hr)
  have e1 : ∀ x : Int, (x == x) = true := fun x => by simp
  generalize putL n s = L1 at *
  generalize putE n s = E1 at *
  generalize getN l at_ s = N2 at *
  generalize getE l.length at_ s = E2 at *
  generalize cutL l at_ m = L3 at *
  generalize cutE l.length at_ m = E3 at *
  go_enter Try.func3, Try.ntmps3
  go_wp2_with fail
  refine (H1.out w).mono ?_
  rintro e w1 ⟨v1, rfl, o1, b1⟩
  go_wp2_with fail
  refine (H2.out w1).mono ?_
  rintro e w2 ⟨v2, rfl, o2, b2⟩
  have h2 := h.nx (b1.trans b2)
  go_wp2_with fail
  refine (H3.out w2 h2).mono ?_
  rintro e w3 ⟨rfl, rfl⟩
  go_wp2_with fail
  refine (H4.out w2 h2).mono ?_
  rintro e w4 ⟨rfl, b4⟩
  go_wp2_with fail
  refine (H5.out w4 (h2.nx b4)).mono ?_
  rintro e w5 ⟨v5, rfl, o5, b5⟩
  go_wp2_with fail
  refine (H6.out w5 ((h2.nx b4).nx b5)).mono ?_
  rintro e w6 ⟨v6, rfl, o6, b6⟩
  have r1 := ((o1.rd.nx b2).nx b4).nx (b5.trans b6)
  have r2 := (o2.rd.nx b4).nx (b5.trans b6)
  have r5 := o5.rd.nx b6
  have r6 := o6.rd
  have n6 := (b1.trans b2).trans ((b4.trans b5).trans b6)
  clear o1 o2 o5 o6 b1 b2 b4 b5 b6 h2 H1 H2 H3 H4 H5 H6
  go_wp2_with fail
  refine (same_yes _ _ _ _ r1 r2).mono ?_
  rintro e w7 ⟨rfl, b7⟩
  go_wp2_with fail
  refine (same_yes _ _ _ _ (r5.nx b7) (r6.nx b7)).mono ?_
  rintro e w8 ⟨rfl, b8⟩
  go_wp2_with fail
  refine (works_any _).mono ?_
  rintro e w9 ⟨rfl, b9⟩
  go_wp2
  go_ret
  exact ⟨rfl, (n6.trans b7).trans (b8.trans b9)⟩
end Go.Proofs.Ytgdjhppahgchpaa
