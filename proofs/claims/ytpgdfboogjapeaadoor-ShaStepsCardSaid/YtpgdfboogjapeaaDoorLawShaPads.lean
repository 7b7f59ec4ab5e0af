/- LAYER 2: the walk of ShaPads. -/
import Derived.Test.YtpgdfboogjapeaaDoorShaLaw1
import Derived.Test.YtpgdfboogjapeaaDoorShaPad
import Derived.Deep.DeepCutAuto
import Derived.Deep.RegionWith
namespace Go.Proofs.YtpgdfboogjapeaaDoor
open Go Go.RowKit
set_option linter.unusedVariables false
set_option linter.unusedSimpArgs false

theorem take_le (l : List UInt8) : (l.take 1000).length ≤ 1000 := by rw [List.length_take]; omega
/-- What stands behind 'if len(b) > 1000 { b = b[:1000] }'. -/
theorem cutV_take {w : World} {A : Option Addr} {c : Nat} {l : List UInt8} (h : At w A l) (hl : 1000 < l.length) (hc : l.length ≤ c) (hm : c ≤ maxLen) : Rd w (.slice A 1000 c) (l.take 1000) :=
  Rd.pre h (by omega) (by omega) hm

set_option maxHeartbeats 2000000 in
theorem shaPads_law {w : World} (v0 : Value) (l0 : List UInt8) (h0 : Rd w v0 l0) (_ : l0.length ≤ 140737488351232) (v1 : Value) (l1 : List UInt8) (h1 : Rd w v1 l1) (_ : l1.length ≤ 140737488351232) (hk : KIs w) :
    Calls Tryd.prog 6 #[v0, v1] w fun e w' => e = .returned (.bool true) ∧ Nx w w' := by
  have R0 := Lib.hid h0
  have R1 := Lib.hid h1
  obtain ⟨A0, c0, rfl, hc0, hm0, ha0⟩ := h0
  obtain ⟨A1, c1, rfl, hc1, hm1, ha1⟩ := h1
  go_enter Tryd.func6, Tryd.ntmps6
  go_upto_if 9 with fail
  go_cut [0] (fun s wx => wx = w ∧ Rd w s (l0.take 1000))
  case first =>
    by_cases hle : l0.length ≤ 1000
    · have ht : decide ((1000 : Int) < (l0.length : Int)) = false := by simp; omega
      have ht2 : decide (1000 < l0.length) = false := by simp; omega
      go_wp2_with fail
      go_meet
      exact ⟨rfl, by rw [List.take_of_length_le hle]; exact R0.out⟩
    · have ht : decide ((1000 : Int) < (l0.length : Int)) = true := by simp; omega
      have ht2 : decide (1000 < l0.length) = true := by simp; omega
      have hs := slice_to (P := Tryd.prog) 22 5 Tryd.underlying22 Tryd.sizeOf5 A0 l0.length c0 1000 1000 rfl (by omega)
      go_wp2_with fail
      go_meet
      exact ⟨rfl, cutV_take ha0 (by omega) hc0 hm0⟩
  case rest =>
    obtain ⟨rfl, hr⟩ := hcut
    clear ha0 hc0 hm0 R0
    have Ra := Lib.hid hr
    obtain ⟨A2, c2, rfl, hc2, hm2, ha2⟩ := hr
    have hla := take_le l0
    generalize l0.take 1000 = a at *
    go_upto_if 14 with fail
    go_cut [1] (fun s wx => wx = wc ∧ Rd wc s (l1.take 1000))
    case first =>
      by_cases hle : l1.length ≤ 1000
      · have ht : decide ((1000 : Int) < (l1.length : Int)) = false := by simp; omega
        have ht2 : decide (1000 < l1.length) = false := by simp; omega
        go_wp2_with fail
        go_meet
        exact ⟨rfl, by rw [List.take_of_length_le hle]; exact R1.out⟩
      · have ht : decide ((1000 : Int) < (l1.length : Int)) = true := by simp; omega
        have ht2 : decide (1000 < l1.length) = true := by simp; omega
        have hs := slice_to (P := Tryd.prog) 22 5 Tryd.underlying22 Tryd.sizeOf5 A1 l1.length c1 1000 1000 rfl (by omega)
        go_wp2_with fail
        go_meet
        exact ⟨rfl, cutV_take ha1 (by omega) hc1 hm1⟩
    case rest =>
      obtain ⟨rfl, hr⟩ := hcut
      clear ha1 hc1 hm1 R1
      have Rb := Lib.hid hr
      obtain ⟨A3, c3, rfl, hc3, hm3, ha3⟩ := hr
      have hlb := take_le l1
      generalize l1.take 1000 = b at *
      clear ha2 hc2 hm2 ha3 hc3 hm3
      have HLA := Lib.hid hla
      have HLB := Lib.hid hlb
      have HK := Lib.hid hk
      have PT := Lib.hid (pad_take a)
      have PG := Lib.hid (pad_get a)
      have PI : Hid (a ≠ b → padL a ≠ padL b) := Lib.hid fun h e => h (pad_inj HLA.out HLB.out e)
      have PI2 : Hid (a = b → padL a = padL b) := Lib.hid fun h => by rw [h]
      have PL := padL_length a
      have PM : (padL a).length % 64 = 0 := by have := padL_whole a; omega
      have PW : Hid ((padL b).length ≤ 100000) := Lib.hid (by have := padL_length b; unfold gapN at this; omega)
      have HPA := Lib.hid (fun w h => padded_any (.slice A2 a.length c2) a w h (by omega))
      have HPB := Lib.hid (fun w h => padded_any (.slice A3 b.length c3) b w h (by omega))
      have hpl1 : a.length + 9 ≤ (padL a).length := by omega
      have hpl2 : (padL a).length ≤ 100000 := by unfold gapN at PL; omega
      clear PL hk
      generalize padL a = p at *
      generalize padL b = q at *
      go_wp2_with fail
      refine (HPA.out _ Ra.out).mono ?_
      rintro e w1 ⟨v1, rfl, o1, n1⟩
      have N1 := Lib.hid n1
      go_wp2_with fail
      refine (HPB.out _ (Rb.out.nx n1)).mono ?_
      rintro e w2 ⟨v2, rfl, o2, n2⟩
      have N2 := Lib.hid (N1.out.trans n2)
      have P1 := Lib.hid (o1.rd.nx n2)
      have Q1 := Lib.hid o2.rd
      clear o1 o2 n1 n2
      obtain ⟨A4, c4, rfl, hc4, hm4, ha4⟩ := P1.out
      obtain ⟨A5, c5, rfl, hc5, hm5, ha5⟩ := Q1.out
      have hs := slice_to (P := Tryd.prog) 22 5 Tryd.underlying22 Tryd.sizeOf5 A4 p.length c4 a.length (a.length : Int) rfl (by omega)
      have PR : Hid (Rd w2 (.slice A4 a.length c4) a) := Lib.hid (by
        have := Rd.pre ha4 (m := a.length) (by omega) (by omega) hm4
        rwa [PT.out] at this)
      have d1 : decide ((p.length : Int) < (a.length : Int) + 9) = false := by simp; omega
      have d2 : ((p.length : Int) % 64 != 0) = false := by simp; omega
      have hget := List.getElem?_eq_some_iff.1 PG.out
      obtain ⟨hlt, hge⟩ := hget
      obtain ⟨g4, o4, rfl, hg4, hcell4⟩ := ha4 (by omega)
      have HC : Hid (∀ W, Nx w2 W → W.cell? ⟨g4, o4 + a.length, none⟩ = some (.int .u8 128)) := Lib.hid fun W h => by
        rw [h.cell (p := ⟨g4, o4 + a.length, none⟩) hg4, hcell4 _ hlt, hge]; rfl
      have hla' : a.length < p.length := hlt
      clear ha5 hc5 hm5 hcell4 hge PT PG
      have ha' : (a.length : Int) < (p.length : Int) := by omega
      have hp' : (p.length : Int) ≤ 100000 := by omega
      go_wp2_with fail
      refine (same_yes _ _ _ _ PR.out (Ra.out.nx N2.out)).mono ?_
      rintro e w3 ⟨rfl, n3⟩
      have hq := HC.out w3 n3
      have N3 := Lib.hid (N2.out.trans n3)
      have P3 := Lib.hid (P1.out.nx n3)
      have Q3 := Lib.hid (Q1.out.nx n3)
      clear n3 HC PR P1 Q1
      by_cases hab : a = b
      · have hpq := Lib.hid (PI2.out hab)
        have HAB := Lib.hid hab
        clear PI PI2 hab
        go_wp2_with fail
        refine (same_yes _ _ p _ P3.out (by rw [hpq.out]; exact Q3.out)).mono ?_
        rintro e w4 ⟨rfl, n4⟩
        have N4 := Lib.hid (N3.out.trans n4)
        clear hq n4
        go_wp2_with fail
        refine (same_yes _ _ a _ (Ra.out.nx N4.out) (by rw [HAB.out]; exact Rb.out.nx N4.out)).mono ?_
        rintro e w5 ⟨rfl, n5⟩
        have N5 := Lib.hid (N4.out.trans n5)
        clear n5
        go_wp2_with fail
        refine (works_any _ (HK.out.nx N5.out)).mono ?_
        rintro e w6 ⟨rfl, n6⟩
        go_wp2_with fail
        go_ret
        exact ⟨rfl, N5.out.trans n6⟩
      · have hpq := Lib.hid (PI.out hab)
        have HAB := Lib.hid hab
        clear PI PI2 hab
        go_wp2_with fail
        refine (same_no _ _ p q _ P3.out Q3.out hpq.out).mono ?_
        rintro e w4 ⟨rfl, n4⟩
        have N4 := Lib.hid (N3.out.trans n4)
        clear hq n4
        go_wp2_with fail
        refine (same_no _ _ a b _ (Ra.out.nx N4.out) (Rb.out.nx N4.out) HAB.out).mono ?_
        rintro e w5 ⟨rfl, n5⟩
        have N5 := Lib.hid (N4.out.trans n5)
        clear n5
        go_wp2_with fail
        refine (works_any _ (HK.out.nx N5.out)).mono ?_
        rintro e w6 ⟨rfl, n6⟩
        go_wp2_with fail
        go_ret
        exact ⟨rfl, N5.out.trans n6⟩
end Go.Proofs.YtpgdfboogjapeaaDoor
