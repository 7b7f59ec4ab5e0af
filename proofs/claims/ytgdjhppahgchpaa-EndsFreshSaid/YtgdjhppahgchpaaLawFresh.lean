/- LAYER 1: the walk of EndsFresh. -/
import Derived.Test.YtgdjhppahgchpaaLaw1
import Derived.Test.YtgdjhppahgchpaaFresh
namespace Go.Proofs.Ytgdjhppahgchpaa
open Go.RowKit

theorem spoil_one (B : Nat) (v : Value) (l : List UInt8) (w : World) (hown : Own B w v l) :
    Calls Try.prog 25 #[v, .int .u8 1] w fun e w' => e = .returned (.tuple #[]) ∧ Below B w w' := spoil_any B v l 1 w hown

theorem gr_bad (l : List UInt8) (at_ m : Int) (h : (gr l at_ m).2.2 ≠ 0) : (gr l at_ m).1 = [] := by
  unfold gr at h ⊢
  split
  · rfl
  · split
    · rfl
    · split
      · rfl
      · rename_i h1 h2 h3
        rw [if_neg h1, if_neg h2, if_neg h3] at h
        exact absurd rfl h

set_option maxRecDepth 100000 in
set_option maxHeartbeats 2000000 in
theorem endsFresh_law {w : World} (v : Value) (l : List UInt8) (h : Rd w v l) (hr0 : l.length ≤ 140737488351232)
    (at_ : Int) (_ : -9223372036854775808 ≤ at_) (_ : at_ ≤ 9223372036854775807) (m : Int) (_ : -9223372036854775808 ≤ m) (_ : m ≤ 9223372036854775807) :
    Calls Try.prog 7 #[v, .int .i64 at_, .int .i64 m] w fun e w' => e = .returned (.bool true) ∧ Nx w w' := by
  have hr : l.length ≤ 140737488355328 := by omega
  have H1 := Lib.hid (wide_any v l w h hr)
  have H2 := Lib.hid (fun v w h => part_any v l at_ m w h hr)
  have H3 := Lib.hid (fun v w h => refPart_any v l at_ m w h hr)
  have H4 := Lib.hid (fun v w h => getRow_any v l at_ (l.length : Nat) w h hr (by omega))
  have H5 := Lib.hid (fun v w h => row_any v l w h hr0)
  have HB := Lib.hid (gr_bad l at_ (l.length : Nat))
  have HR := Lib.hid hr
  clear hr hr0
  generalize cutL l at_ m = L3 at *
  generalize cutE l.length at_ m = E3 at *
  generalize rowL l = L4 at *
  have e1 : ∀ x : Int, (x == x) = true := fun x => by simp
  have hrd := h
  obtain ⟨A, c, rfl, -, -, -⟩ := h
  go_enter Try.func7, Try.ntmps7
  go_wp2_with fail
  refine H1.out.mono ?_
  rintro e w1 ⟨v1, rfl, o1, b1⟩
  have r1 := o1.rd HR.out
  go_wp2_with fail
  refine (H2.out v1 w1 r1).mono ?_
  rintro e w2 ⟨v2, rfl, o2, b2⟩
  go_wp2_with fail
  refine (spoil_one w1.heap.size v2 _ w2 o2).mono ?_
  rintro e w3 ⟨rfl, b3⟩
  have n3 : Nx w1 w3 := b2.app b3
  go_wp2_with fail
  refine (H4.out v1 w3 (r1.nx n3)).mono ?_
  rintro e w4 ⟨v4, rfl, o4, b4⟩
  have o4' := o4
  obtain ⟨A4, c4, rfl, -, -, -⟩ := o4.rd
  go_wp2_with fail
  refine (spoil_one w3.heap.size _ _ w4 o4').mono ?_
  rintro e w5 ⟨rfl, b5⟩
  have n5 : Nx w1 w5 := n3.trans (b4.app b5)
  clear o2 b2 b3 n3 o4 b4 b5 H1 H4
  go_wp2_with fail
  refine (H5.out v1 w5 (r1.nx n5)).mono ?_
  rintro e w6 ⟨v6, rfl, o6, b6⟩
  go_wp2_with fail
  refine (spoil_one w5.heap.size _ _ w6 o6).mono ?_
  rintro e w7 ⟨rfl, b7⟩
  have n7 : Nx w1 w7 := n5.trans (b6.app b7)
  clear n5 o6 b6 b7 H5 o4'
  have hb7 := hrd.nx (b1.trans n7)
  go_wp2_with fail
  refine (H3.out _ w7 hb7).mono ?_
  rintro e w8 ⟨v8, rfl, o8, b8⟩
  go_wp2_with fail
  refine (H2.out _ w8 (hb7.nx b8)).mono ?_
  rintro e w9 ⟨v9, rfl, o9, b9⟩
  have n9 : Nx w1 w9 := n7.trans (b8.trans b9)
  have r8 := o8.rd.nx b9
  have r9 := o9.rd
  have hb9 := (hb7.nx b8).nx b9
  clear o8 o9 b8 b9 hb7 n7 H2 H3
  go_wp2_with fail
  refine (left_any _ _ _ l w9 (o1.nx n9) hb9 HR.out).mono ?_
  rintro e w10 ⟨rfl, b10⟩
  go_wp2_with fail
  refine (same_yes _ _ L3 w10 (r8.nx b10) (r9.nx b10)).mono ?_
  rintro e w11 ⟨rfl, b11⟩
  have n11 : Nx w w11 := (b1.trans n9).trans (b10.trans b11)
  clear n9 b1 b10 b11 r8 r9 hb9 o1 r1
  by_cases hf : (gr l at_ (l.length : Nat)).2.2 = 0
  · have ht : ((gr l at_ (l.length : Nat)).2.2 == 0) = true := by simpa using hf
    clear hf
    go_wp2_with fail
    refine (works_any _).mono ?_
    rintro e w12 ⟨rfl, b12⟩
    go_wp2
    go_ret
    exact ⟨rfl, n11.trans b12⟩
  · have ht : ((gr l at_ (l.length : Nat)).2.2 == 0) = false := by simpa using hf
    have hl := congrArg List.length (HB.out hf)
    simp only [List.length_nil] at hl
    have ht2 : (((gr l at_ (l.length : Nat)).1.length : Int) == 0) = true := by rw [hl]; rfl
    clear hf hl
    go_wp2_with fail
    refine (works_any _).mono ?_
    rintro e w12 ⟨rfl, b12⟩
    go_wp2
    go_ret
    exact ⟨rfl, n11.trans b12⟩
end Go.Proofs.Ytgdjhppahgchpaa
