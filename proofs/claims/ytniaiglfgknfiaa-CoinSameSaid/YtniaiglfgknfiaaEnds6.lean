/- CONTRACTS OF LAYER 1: the reference's GetCount. -/
import Derived.Test.YtniaiglfgknfiaaEnds5
namespace Go.Proofs.Ytniaiglfgknfiaa
open Go.RowKit

theorem getE_one (L : Nat) (at_ : Int) : getE L at_ 1 = cutE L at_ 1 := by unfold getE; rw [if_pos (by decide)]

theorem cutL_one {l : List UInt8} {i : Nat} (hi : i < l.length) : cutL l (i : Int) 1 = [l[i]] := by
  rw [show (1 : Int) = ((1 : Nat) : Int) from rfl, cutL_ok (by omega), List.drop_eq_getElem_cons hi]
  rfl

/-- Part of one byte: where it lies, it can be read. -/
theorem refPart_one (v : Value) (l : List UInt8) (i : Nat) (w : World) (h : Rd w v l) (hr : l.length ≤ 140737488355328) (hi : i < l.length) (x : Int) (hx : (l[i].toNat : Int) = x) :
    Calls Try.prog 42 #[v, .int .i64 (i : Int), .int .i64 1] w fun e w' => ∃ b o c, e = .returned (.tuple #[.slice (some ⟨b, o, none⟩) 1 c, .int .i64 0]) ∧ w'.cell? ⟨b, o, none⟩ = some (.int .u8 x) ∧ Nx w w' := by
  refine (refPart_any v l i 1 w h hr).mono ?_
  rintro e w' ⟨v', rfl, hown, hb⟩
  rw [cutL_one hi] at hown
  obtain ⟨A, c, rfl, _, _, ha⟩ := hown.rd
  obtain ⟨b, o, rfl, _, hc⟩ := ha (by simp)
  subst hx
  refine ⟨b, o, c, ?_, hc 0 (by simp), hb⟩
  rw [show (1 : Int) = ((1 : Nat) : Int) from rfl, cutE_ok (by omega)]
  rfl

theorem countL_length (n : Nat) : (countL n).length = 1 + behind n := by
  unfold countL
  split
  · rename_i h
    rw [h]; rfl
  · simp; omega

set_option maxHeartbeats 1000000 in
theorem refGetCount_any (v : Value) (l : List UInt8) (at_ : Int) (w : World) (h : Rd w v l) (hr : l.length ≤ 140737488355328) :
    Calls Try.prog 59 #[v, .int .i64 at_] w fun e w' => e = .returned (.tuple #[.int .u64 ((gc l at_).1 : Int), .int .i64 (gc l at_).2.1, .int .i64 (gc l at_).2.2]) ∧ Nx w w' := by
  rcases gc_cases l at_ with ⟨h1, h2⟩ | ⟨i, hi, rfl, h1, hn, ⟨h2, h3⟩ | ⟨f, s, h2, h4, ⟨h5, h6⟩ | ⟨h5, h7, h6⟩ | ⟨h5, h8, h7, h6⟩⟩⟩
  · rw [h2]
    have HG := Lib.hid (refPart_any v l at_ 1 w h hr)
    rw [getE_one] at h1 ⊢
    have ht : (cutE l.length at_ 1 != 0) = true := by simpa using h1
    clear h2 h1
    generalize cutE l.length at_ 1 = E at *
    go_enter Try.func59, Try.ntmps59
    go_wp2_with fail
    refine HG.out.mono ?_
    rintro e w1 ⟨v', rfl, hown, hb⟩
    go_wp2
    go_ret3
    exact ⟨rfl, hb⟩
  · rw [h3]
    have hx := l[i].toNat_lt
    have HG := Lib.hid (refPart_one v l i w h hr hi _ rfl)
    have h2' : (l[i].toNat : Int) < 253 := by omega
    clear h3 h1 hn h2
    generalize l[i].toNat = x at *
    go_enter Try.func59, Try.ntmps59
    go_wp2_with fail
    refine HG.out.mono ?_
    rintro e w1 ⟨b, o, c, rfl, hc, hb⟩
    go_wp2
    go_ret3
    exact ⟨rfl, hb⟩
  · rw [h6]
    rcases h4 with ⟨rfl, rfl⟩ | ⟨rfl, rfl⟩ | ⟨rfl, rfl⟩
    · have HG := Lib.hid (refPart_one v l i w h hr hi 253 (by omega))
      have HG2 := Lib.hid (fun w1 h1 => refGet_any v l (i + 1) 2 w1 h1 hr)
      have h5' : getE l.length ((i : Int) + 1) 2 ≠ 0 := h5
      have ht := bne_iff_ne.2 h5'
      show Calls _ _ _ _ fun e w' => e = .returned (.tuple #[.int .u64 0, .int .i64 0, .int .i64 (getE l.length ((i : Int) + 1) 2)]) ∧ Nx w w'
      clear h5 h5' h6 h2 h1 hn
      generalize getE l.length ((i : Int) + 1) 2 = E at *
      go_enter Try.func59, Try.ntmps59
      go_wp2_with fail
      refine HG.out.mono ?_
      rintro e w1 ⟨b, o, c, rfl, hc, hb⟩
      go_wp2_with fail
      refine (HG2.out w1 (h.nx hb)).mono ?_
      rintro e w2 ⟨rfl, hb2⟩
      go_wp2
      go_ret3
      exact ⟨rfl, hb.trans hb2⟩
    · have HG := Lib.hid (refPart_one v l i w h hr hi 254 (by omega))
      have HG2 := Lib.hid (fun w1 h1 => refGet_any v l (i + 1) 4 w1 h1 hr)
      have h5' : getE l.length ((i : Int) + 1) 4 ≠ 0 := h5
      have ht := bne_iff_ne.2 h5'
      show Calls _ _ _ _ fun e w' => e = .returned (.tuple #[.int .u64 0, .int .i64 0, .int .i64 (getE l.length ((i : Int) + 1) 4)]) ∧ Nx w w'
      clear h5 h5' h6 h2 h1 hn
      generalize getE l.length ((i : Int) + 1) 4 = E at *
      go_enter Try.func59, Try.ntmps59
      go_wp2_with fail
      refine HG.out.mono ?_
      rintro e w1 ⟨b, o, c, rfl, hc, hb⟩
      go_wp2_with fail
      refine (HG2.out w1 (h.nx hb)).mono ?_
      rintro e w2 ⟨rfl, hb2⟩
      go_wp2
      go_ret3
      exact ⟨rfl, hb.trans hb2⟩
    · have HG := Lib.hid (refPart_one v l i w h hr hi 255 (by omega))
      have HG2 := Lib.hid (fun w1 h1 => refGet_any v l (i + 1) 8 w1 h1 hr)
      have h5' : getE l.length ((i : Int) + 1) 8 ≠ 0 := h5
      have ht := bne_iff_ne.2 h5'
      show Calls _ _ _ _ fun e w' => e = .returned (.tuple #[.int .u64 0, .int .i64 0, .int .i64 (getE l.length ((i : Int) + 1) 8)]) ∧ Nx w w'
      clear h5 h5' h6 h2 h1 hn
      generalize getE l.length ((i : Int) + 1) 8 = E at *
      go_enter Try.func59, Try.ntmps59
      go_wp2_with fail
      refine HG.out.mono ?_
      rintro e w1 ⟨b, o, c, rfl, hc, hb⟩
      go_wp2_with fail
      refine (HG2.out w1 (h.nx hb)).mono ?_
      rintro e w2 ⟨rfl, hb2⟩
      go_wp2
      go_ret3
      exact ⟨rfl, hb.trans hb2⟩
  · rw [h6]
    rcases h4 with ⟨rfl, rfl⟩ | ⟨rfl, rfl⟩ | ⟨rfl, rfl⟩
    · have HG := Lib.hid (refPart_one v l i w h hr hi 253 (by omega))
      have HG2 := Lib.hid (fun w1 h1 => refGet_is v l (i + 1) 2 _ _ 0 w1 h1 hr rfl rfl h5)
      have h7' : behind (getN l ((i : Int) + 1) 2) ≠ 2 := h7
      have hq := num_lt64 (L := cutL l ((i : Int) + 1) 2) (by unfold cutL; split <;> simp; omega)
      have hq' : ((getN l ((i : Int) + 1) 2 : Nat) : Int) ≤ 18446744073709551615 := by unfold getN; rw [if_pos (by decide)]; omega
      clear hq
      generalize getN l ((i : Int) + 1) 2 = q at *
      have HC := Lib.hid (fun w1 => refCount_any q w1 hq')
      have ht : (((countL q).length : Int) != 3) = true := bne_iff_ne.2 (by rw [countL_length]; omega)
      clear h5 h6 h2 h1 hn h7 h7' hq'
      generalize countL q = cl at *
      go_enter Try.func59, Try.ntmps59
      go_wp2_with fail
      refine HG.out.mono ?_
      rintro e w1 ⟨b, o, c, rfl, hc, hb⟩
      go_wp2_with fail
      refine (HG2.out w1 (h.nx hb)).mono ?_
      rintro e w2 ⟨rfl, hb2⟩
      go_wp2_with fail
      refine (HC.out w2).mono ?_
      rintro e w3 ⟨v3, rfl, hown3, hb3⟩
      obtain ⟨A3, c3, rfl, _, _, _⟩ := hown3.rd
      go_wp2
      go_ret3
      exact ⟨rfl, (hb.trans hb2).trans hb3⟩
    · have HG := Lib.hid (refPart_one v l i w h hr hi 254 (by omega))
      have HG2 := Lib.hid (fun w1 h1 => refGet_is v l (i + 1) 4 _ _ 0 w1 h1 hr rfl rfl h5)
      have h7' : behind (getN l ((i : Int) + 1) 4) ≠ 4 := h7
      have hq := num_lt64 (L := cutL l ((i : Int) + 1) 4) (by unfold cutL; split <;> simp; omega)
      have hq' : ((getN l ((i : Int) + 1) 4 : Nat) : Int) ≤ 18446744073709551615 := by unfold getN; rw [if_pos (by decide)]; omega
      clear hq
      generalize getN l ((i : Int) + 1) 4 = q at *
      have HC := Lib.hid (fun w1 => refCount_any q w1 hq')
      have ht : (((countL q).length : Int) != 5) = true := bne_iff_ne.2 (by rw [countL_length]; omega)
      clear h5 h6 h2 h1 hn h7 h7' hq'
      generalize countL q = cl at *
      go_enter Try.func59, Try.ntmps59
      go_wp2_with fail
      refine HG.out.mono ?_
      rintro e w1 ⟨b, o, c, rfl, hc, hb⟩
      go_wp2_with fail
      refine (HG2.out w1 (h.nx hb)).mono ?_
      rintro e w2 ⟨rfl, hb2⟩
      go_wp2_with fail
      refine (HC.out w2).mono ?_
      rintro e w3 ⟨v3, rfl, hown3, hb3⟩
      obtain ⟨A3, c3, rfl, _, _, _⟩ := hown3.rd
      go_wp2
      go_ret3
      exact ⟨rfl, (hb.trans hb2).trans hb3⟩
    · have HG := Lib.hid (refPart_one v l i w h hr hi 255 (by omega))
      have HG2 := Lib.hid (fun w1 h1 => refGet_is v l (i + 1) 8 _ _ 0 w1 h1 hr rfl rfl h5)
      have h7' : behind (getN l ((i : Int) + 1) 8) ≠ 8 := h7
      have hq := num_lt64 (L := cutL l ((i : Int) + 1) 8) (by unfold cutL; split <;> simp; omega)
      have hq' : ((getN l ((i : Int) + 1) 8 : Nat) : Int) ≤ 18446744073709551615 := by unfold getN; rw [if_pos (by decide)]; omega
      clear hq
      generalize getN l ((i : Int) + 1) 8 = q at *
      have HC := Lib.hid (fun w1 => refCount_any q w1 hq')
      have ht : (((countL q).length : Int) != 9) = true := bne_iff_ne.2 (by rw [countL_length]; omega)
      clear h5 h6 h2 h1 hn h7 h7' hq'
      generalize countL q = cl at *
      go_enter Try.func59, Try.ntmps59
      go_wp2_with fail
      refine HG.out.mono ?_
      rintro e w1 ⟨b, o, c, rfl, hc, hb⟩
      go_wp2_with fail
      refine (HG2.out w1 (h.nx hb)).mono ?_
      rintro e w2 ⟨rfl, hb2⟩
      go_wp2_with fail
      refine (HC.out w2).mono ?_
      rintro e w3 ⟨v3, rfl, hown3, hb3⟩
      obtain ⟨A3, c3, rfl, _, _, _⟩ := hown3.rd
      go_wp2
      go_ret3
      exact ⟨rfl, (hb.trans hb2).trans hb3⟩
  · rw [h6]
    rcases h4 with ⟨rfl, rfl⟩ | ⟨rfl, rfl⟩ | ⟨rfl, rfl⟩
    · have HG := Lib.hid (refPart_one v l i w h hr hi 253 (by omega))
      have HG2 := Lib.hid (fun w1 h1 => refGet_is v l (i + 1) 2 _ _ 0 w1 h1 hr rfl rfl h5)
      have h7' : behind (getN l ((i : Int) + 1) 2) = 2 := h7
      have hq := num_lt64 (L := cutL l ((i : Int) + 1) 2) (by unfold cutL; split <;> simp; omega)
      have hq' : ((getN l ((i : Int) + 1) 2 : Nat) : Int) ≤ 18446744073709551615 := by unfold getN; rw [if_pos (by decide)]; omega
      clear hq
      show Calls _ _ _ _ fun e w' => e = .returned (.tuple #[.int .u64 (getN l ((i : Int) + 1) 2 : Int), .int .i64 ((i : Int) + 1 + 2), .int .i64 0]) ∧ Nx w w'
      have hi1 : (i : Int) + 1 + 2 ≤ 9223372036854775807 := by omega
      generalize getN l ((i : Int) + 1) 2 = q at *
      have HC := Lib.hid (fun w1 => refCount_any q w1 hq')
      have ht : (((countL q).length : Int) != 3) = false := by rw [countL_length, h7']; rfl
      clear h5 h6 h2 h1 hn h7 h7' hq'
      generalize countL q = cl at *
      go_enter Try.func59, Try.ntmps59
      go_wp2_with fail
      refine HG.out.mono ?_
      rintro e w1 ⟨b, o, c, rfl, hc, hb⟩
      go_wp2_with fail
      refine (HG2.out w1 (h.nx hb)).mono ?_
      rintro e w2 ⟨rfl, hb2⟩
      go_wp2_with fail
      refine (HC.out w2).mono ?_
      rintro e w3 ⟨v3, rfl, hown3, hb3⟩
      obtain ⟨A3, c3, rfl, _, _, _⟩ := hown3.rd
      go_wp2
      go_ret3
      exact ⟨rfl, (hb.trans hb2).trans hb3⟩
    · have HG := Lib.hid (refPart_one v l i w h hr hi 254 (by omega))
      have HG2 := Lib.hid (fun w1 h1 => refGet_is v l (i + 1) 4 _ _ 0 w1 h1 hr rfl rfl h5)
      have h7' : behind (getN l ((i : Int) + 1) 4) = 4 := h7
      have hq := num_lt64 (L := cutL l ((i : Int) + 1) 4) (by unfold cutL; split <;> simp; omega)
      have hq' : ((getN l ((i : Int) + 1) 4 : Nat) : Int) ≤ 18446744073709551615 := by unfold getN; rw [if_pos (by decide)]; omega
      clear hq
      show Calls _ _ _ _ fun e w' => e = .returned (.tuple #[.int .u64 (getN l ((i : Int) + 1) 4 : Int), .int .i64 ((i : Int) + 1 + 4), .int .i64 0]) ∧ Nx w w'
      have hi1 : (i : Int) + 1 + 4 ≤ 9223372036854775807 := by omega
      generalize getN l ((i : Int) + 1) 4 = q at *
      have HC := Lib.hid (fun w1 => refCount_any q w1 hq')
      have ht : (((countL q).length : Int) != 5) = false := by rw [countL_length, h7']; rfl
      clear h5 h6 h2 h1 hn h7 h7' hq'
      generalize countL q = cl at *
      go_enter Try.func59, Try.ntmps59
      go_wp2_with fail
      refine HG.out.mono ?_
      rintro e w1 ⟨b, o, c, rfl, hc, hb⟩
      go_wp2_with fail
      refine (HG2.out w1 (h.nx hb)).mono ?_
      rintro e w2 ⟨rfl, hb2⟩
      go_wp2_with fail
      refine (HC.out w2).mono ?_
      rintro e w3 ⟨v3, rfl, hown3, hb3⟩
      obtain ⟨A3, c3, rfl, _, _, _⟩ := hown3.rd
      go_wp2
      go_ret3
      exact ⟨rfl, (hb.trans hb2).trans hb3⟩
    · have HG := Lib.hid (refPart_one v l i w h hr hi 255 (by omega))
      have HG2 := Lib.hid (fun w1 h1 => refGet_is v l (i + 1) 8 _ _ 0 w1 h1 hr rfl rfl h5)
      have h7' : behind (getN l ((i : Int) + 1) 8) = 8 := h7
      have hq := num_lt64 (L := cutL l ((i : Int) + 1) 8) (by unfold cutL; split <;> simp; omega)
      have hq' : ((getN l ((i : Int) + 1) 8 : Nat) : Int) ≤ 18446744073709551615 := by unfold getN; rw [if_pos (by decide)]; omega
      clear hq
      show Calls _ _ _ _ fun e w' => e = .returned (.tuple #[.int .u64 (getN l ((i : Int) + 1) 8 : Int), .int .i64 ((i : Int) + 1 + 8), .int .i64 0]) ∧ Nx w w'
      have hi1 : (i : Int) + 1 + 8 ≤ 9223372036854775807 := by omega
      generalize getN l ((i : Int) + 1) 8 = q at *
      have HC := Lib.hid (fun w1 => refCount_any q w1 hq')
      have ht : (((countL q).length : Int) != 9) = false := by rw [countL_length, h7']; rfl
      clear h5 h6 h2 h1 hn h7 h7' hq'
      generalize countL q = cl at *
      go_enter Try.func59, Try.ntmps59
      go_wp2_with fail
      refine HG.out.mono ?_
      rintro e w1 ⟨b, o, c, rfl, hc, hb⟩
      go_wp2_with fail
      refine (HG2.out w1 (h.nx hb)).mono ?_
      rintro e w2 ⟨rfl, hb2⟩
      go_wp2_with fail
      refine (HC.out w2).mono ?_
      rintro e w3 ⟨v3, rfl, hown3, hb3⟩
      obtain ⟨A3, c3, rfl, _, _, _⟩ := hown3.rd
      go_wp2
      go_ret3
      exact ⟨rfl, (hb.trans hb2).trans hb3⟩
end Go.Proofs.Ytniaiglfgknfiaa
