/- LAYER 11: the walks of CodeReads, CodeOnce and CodeJoin. -/
import Derived.Test.YtbhoflmdhlchlaaLawCodePuts
import Derived.Test.YtbhoflmdhlchlaaFreshW
namespace Go.Proofs.Ytbhoflmdhlchlaa
open Go Go.RowKit
set_option linter.unusedVariables false
set_option linter.unusedSimpArgs false
set_option linter.unusedVariables false
set_option linter.unusedSimpArgs false

theorem read_len (b : List UInt8) : (readS b).1.length ≤ 200 := by
  rcases read_got b with ⟨_, h⟩ | ⟨_, h, _⟩
  · rw [h]; simp
  · exact h
set_option maxRecDepth 100000 in
set_option maxHeartbeats 4000000 in
theorem codeReads_law {w : World} (v0 : Value) (l0 : List UInt8) (h0 : Rd w v0 l0) (hr0 : l0.length ≤ 140737488351232) :
    Calls Try.prog 4 #[v0] w fun e w' => e = .returned (.bool true) ∧ Nx w w' := by
  have hr : l0.length ≤ 140737488355328 := by omega
  have HR := Lib.hid h0
  have HW := Lib.hid (wide_any v0 l0 w h0 hr)
  have H1 := Lib.hid (fun v w h => cread_any v l0 w h hr)
  have H2 := Lib.hid (fun v w h => rread_any v l0 w h hr)
  have H3 := Lib.hid (fun v1 v2 w h1 h2 => rsameS_yes v1 v2 (readS l0).1 w h1 h2 (by have := read_len l0; omega))
  have HLF := Lib.hid (fun B v vb w h1 h2 => left_any B v vb l0 w h1 h2 hr)
  have HWR := Lib.hid (fun B v w (h : WideAt B w v l0) => h.rd hr)
  have HL := Lib.hid lives_any
  have he : ((readS l0).2 == (readS l0).2) = true := by simp
  obtain ⟨A, c, rfl, -, -, -⟩ := h0
  clear hr hr0
  generalize readS l0 = S at *
  obtain ⟨S, E⟩ := S
  dsimp only at *
  go_enter Try.func4, Try.ntmps4
  go_wp2_with fail
  refine HW.out.mono ?_
  rintro e w1 ⟨v1, rfl, o1, n1⟩
  have N1 := Lib.hid n1
  have W1 := Lib.hid o1
  clear n1 o1 HW
  go_wp2_with fail
  refine (H1.out _ _ (HWR.out _ _ _ W1.out)).mono ?_
  rintro e w2 ⟨v2, rfl, o2, n2⟩
  have N2 := Lib.hid (N1.out.trans n2)
  have W2 := Lib.hid (W1.out.nx n2)
  have B2 := Lib.hid o2.rd
  clear n2 o2 H1 HWR
  go_wp2_with fail
  refine (H2.out _ _ (HR.out.nx N2.out)).mono ?_
  rintro e w3 ⟨v3, rfl, o3, n3⟩
  have N3 := Lib.hid (N2.out.trans n3)
  have W3 := Lib.hid (W2.out.nx n3)
  have HS := Lib.hid (H3.out _ _ _ (B2.out.nx n3) o3.rd)
  clear n3 o3 H2 H3
  go_wp2_with fail
  refine HS.out.mono ?_
  rintro e w4 ⟨rfl, n4⟩
  have N4 := Lib.hid (N3.out.trans n4)
  have W4 := Lib.hid (W3.out.nx n4)
  clear n4 HS
  go_wp2_with fail
  refine (HLF.out _ _ _ _ W4.out (HR.out.nx N4.out)).mono ?_
  rintro e w5 ⟨rfl, n5⟩
  have N5 := Lib.hid (N4.out.trans n5)
  clear n5 HLF
  go_wp2_with fail
  refine (HL.out _).mono ?_
  rintro e w6 ⟨rfl, n6⟩
  have N6 := Lib.hid (N5.out.trans n6)
  go_wp2_with fail
  go_ret
  exact ⟨rfl, N6.out⟩
theorem bulk_may (es : List Step) (h : es.any badS = false) : bulkS es ≤ es.length * 3003 := by
  induction es with
  | nil => simp [bulkS]
  | cons a r ih =>
    have e2 : bulkS (a :: r) = (a.2.length + 3) + bulkS r := by simp [bulkS]
    have h1 := mayS_len (badS_no h a (List.mem_cons_self ..))
    have h2 := ih (by simp at h; simpa using h.2)
    rw [e2, List.length_cons]
    omega
set_option maxRecDepth 100000 in
set_option maxHeartbeats 4000000 in
theorem codeOnce_law {w : World} (v0 : Value) (l0 : List UInt8) (h0 : Rd w v0 l0) (hr0 : l0.length ≤ 140737488351232) :
    Calls Try.prog 6 #[v0] w fun e w' => e = .returned (.bool true) ∧ Nx w w' := by
  have hr : l0.length ≤ 140737488355328 := by omega
  have HR := Lib.hid h0
  have H1 := Lib.hid (cread_any v0 l0 w h0 hr)
  have HL := Lib.hid lives_any
  obtain ⟨A, c, rfl, -, -, -⟩ := h0
  rcases read_got l0 with ⟨g1, g2⟩ | ⟨g1, g2, g3, g4⟩
  · rw [g2] at H1
    have dE : ((readS l0).2 != 0) = true := by rw [bne_iff_ne]; exact g1
    clear hr hr0 g1 g2
    generalize (readS l0).2 = E at *
    go_enter Try.func6, Try.ntmps6
    go_wp2_with fail
    refine H1.out.mono ?_
    rintro e w1 ⟨v1, rfl, o1, n1⟩
    have N1 := Lib.hid n1
    obtain ⟨A1, c1, fs, rfl, -, -, -, -⟩ := o1.rd.parts
    clear n1 o1 H1
    go_wp2_with fail
    refine (HL.out _).mono ?_
    rintro e w5 ⟨rfl, n5⟩
    have N5 := Lib.hid (N1.out.trans n5)
    go_wp2_with fail
    go_ret
    exact ⟨rfl, N5.out⟩
  · rw [g1] at H1
    have hb := bulk_may _ g3
    have hpe : putEr (readS l0).1 = 0 := by unfold putEr; rw [g3, if_neg (by simp), if_neg (by omega)]
    have hpb : putBs (readS l0).1 = l0 := by unfold putBs; rw [if_pos hpe, g4]
    have H2 := Lib.hid (fun v w h => cput_any v (readS l0).1 w h (by omega) (by omega))
    rw [hpe, hpb] at H2
    have H3 := Lib.hid (fun v1 v2 w h1 h2 => same_yes v1 v2 l0 w h1 h2)
    clear hr hr0 g1 g2 g3 g4 hb hpe hpb
    generalize (readS l0).1 = S at *
    go_enter Try.func6, Try.ntmps6
    go_wp2_with fail
    refine H1.out.mono ?_
    rintro e w1 ⟨v1, rfl, o1, n1⟩
    have N1 := Lib.hid n1
    have B1 := Lib.hid o1.rd
    clear n1 o1 H1
    go_wp2_with fail
    refine (H2.out _ _ B1.out).mono ?_
    rintro e w2 ⟨v2, rfl, o2, n2⟩
    have N2 := Lib.hid (N1.out.trans n2)
    have HS := Lib.hid (H3.out _ _ _ (HR.out.nx N2.out) o2.rd)
    clear n2 o2 H2
    go_wp2_with fail
    refine HS.out.mono ?_
    rintro e w3 ⟨rfl, n3⟩
    have N3 := Lib.hid (N2.out.trans n3)
    clear n3 HS
    go_wp2_with fail
    refine (HL.out _).mono ?_
    rintro e w5 ⟨rfl, n5⟩
    have N5 := Lib.hid (N3.out.trans n5)
    go_wp2_with fail
    go_ret
    exact ⟨rfl, N5.out⟩
end Go.Proofs.Ytbhoflmdhlchlaa
