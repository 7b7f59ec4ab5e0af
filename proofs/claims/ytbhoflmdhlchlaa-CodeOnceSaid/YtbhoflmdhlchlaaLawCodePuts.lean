/- LAYER 11: the walks of CodePuts and CodeBack. -/
import Derived.Test.YtbhoflmdhlchlaaLawCode
namespace Go.Proofs.Ytbhoflmdhlchlaa
open Go Go.RowKit
set_option linter.unusedVariables false
set_option linter.unusedSimpArgs false
set_option linter.unusedVariables false
set_option linter.unusedSimpArgs false

theorem bulkS_len (es : List Step) : es.length ≤ bulkS es := by
  induction es with
  | nil => simp
  | cons a r ih =>
    have e2 : bulkS (a :: r) = (a.2.length + 3) + bulkS r := by simp [bulkS]
    rw [e2, List.length_cons]
    omega
set_option maxRecDepth 100000 in
set_option maxHeartbeats 4000000 in
theorem codePuts_law {w : World} (v0 : Value) (es : List Step) (h0 : RdE stepEl w v0 es) (_ : ∀ a ∈ es, a.2.length ≤ 140737488351232) (hs : bulkS es ≤ 1048576) :
    Calls Try.prog 3 #[v0] w fun e w' => e = .returned (.bool true) ∧ Nx w w' := by
  have hn : es.length ≤ 140737488355328 := by have := bulkS_len es; omega
  have HR := Lib.hid h0
  have H1 := Lib.hid (cput_any v0 es w h0 hn (by omega))
  have H2 := Lib.hid (fun w h => rput_any v0 es w h hn (by omega))
  have H3 := Lib.hid (fun w h => cpushes_any v0 es w h hn)
  have H4 := Lib.hid (fun w h => rpushes_any v0 es w h hn)
  have H5 := Lib.hid (fun w h => csame_yes v0 v0 es w h h hn)
  have HL := Lib.hid lives_any
  have he : (putEr es == putEr es) = true := by simp
  have hp : (pushS es == pushS es) = true := by simp
  obtain ⟨A, c, fs, rfl, -, -, -, -⟩ := h0.parts
  clear h0 hn hs fs
  generalize putEr es = E at *
  generalize putBs es = B at *
  generalize pushS es = P at *
  go_enter Try.func3, Try.ntmps3
  go_wp2_with fail
  refine H1.out.mono ?_
  rintro e w1 ⟨v1, rfl, o1, n1⟩
  have N1 := Lib.hid n1
  have B1 := Lib.hid o1.rd
  clear n1 o1 H1
  go_wp2_with fail
  refine (H2.out _ (HR.out.nx N1.out)).mono ?_
  rintro e w2 ⟨v2, rfl, o2, n2⟩
  have N2 := Lib.hid (N1.out.trans n2)
  have HS := Lib.hid (same_yes v1 v2 B w2 (B1.out.nx n2) o2.rd)
  clear n2 o2 H2
  go_wp2_with fail
  refine HS.out.mono ?_
  rintro e w3 ⟨rfl, n3⟩
  have N3 := Lib.hid (N2.out.trans n3)
  clear n3 HS
  go_wp2_with fail
  refine (H3.out _ (HR.out.nx N3.out)).mono ?_
  rintro e w4 ⟨rfl, n4⟩
  have N4 := Lib.hid (N3.out.trans n4)
  clear n4 H3
  go_wp2_with fail
  refine (H4.out _ (HR.out.nx N4.out)).mono ?_
  rintro e w5 ⟨rfl, n5⟩
  have N5 := Lib.hid (N4.out.trans n5)
  clear n5 H4
  go_wp2_with fail
  refine (H5.out _ (HR.out.nx N5.out)).mono ?_
  rintro e w6 ⟨rfl, n6⟩
  have N6 := Lib.hid (N5.out.trans n6)
  clear n6 H5
  go_wp2_with fail
  refine (HL.out _).mono ?_
  rintro e w7 ⟨rfl, n7⟩
  have N7 := Lib.hid (N6.out.trans n7)
  go_wp2_with fail
  go_ret
  exact ⟨rfl, N7.out⟩
theorem putEr_zero {es : List Step} (h : putEr es = 0) : es.any badS = false ∧ es.length ≤ 200 := by
  unfold putEr at h
  split at h
  · cases h
  · rename_i h1
    split at h
    · cases h
    · exact ⟨by simpa using h1, by omega⟩
set_option maxRecDepth 100000 in
set_option maxHeartbeats 4000000 in
theorem codeBack_law {w : World} (v0 : Value) (es : List Step) (h0 : RdE stepEl w v0 es) (_ : ∀ a ∈ es, a.2.length ≤ 140737488351232) (hs : bulkS es ≤ 1048576) :
    Calls Try.prog 5 #[v0] w fun e w' => e = .returned (.bool true) ∧ Nx w w' := by
  have hn : es.length ≤ 140737488355328 := by have := bulkS_len es; omega
  have HR := Lib.hid h0
  have H1 := Lib.hid (cput_any v0 es w h0 hn (by omega))
  have HL := Lib.hid lives_any
  obtain ⟨A, c, fs, rfl, -, -, -, -⟩ := h0.parts
  by_cases hE : putEr es = 0
  · have HB : putBs es = allT es := by unfold putBs; rw [if_pos hE]
    obtain ⟨g1, g2⟩ := putEr_zero hE
    have HRT := read_text es g1 g2
    have hbl : (allT es).length ≤ 140737488355328 := by have := allT_len es; omega
    rw [hE, HB] at H1
    have H2 := Lib.hid (fun v w h => cread_any v (allT es) w h hbl)
    rw [HRT] at H2
    have H3 := Lib.hid (fun v w h1 h2 => rsameS_yes (.slice A es.length c) v es w h1 h2 hn)
    have H4 := Lib.hid (fun v w h1 h2 => csame_yes (.slice A es.length c) v es w h1 h2 hn)
    clear h0 hn hs fs hE HB g1 g2 HRT hbl
    generalize allT es = B at *
    go_enter Try.func5, Try.ntmps5
    go_wp2_with fail
    refine H1.out.mono ?_
    rintro e w1 ⟨v1, rfl, o1, n1⟩
    have N1 := Lib.hid n1
    have HQ := Lib.hid (H2.out v1 w1 o1.rd)
    clear n1 o1 H1 H2
    go_wp2_with fail
    refine HQ.out.mono ?_
    rintro e w2 ⟨v2, rfl, o2, n2⟩
    have N2 := Lib.hid (N1.out.trans n2)
    have B2 := Lib.hid o2.rd
    clear n2 o2 HQ
    go_wp2_with fail
    refine (H3.out v2 _ (HR.out.nx N2.out) B2.out).mono ?_
    rintro e w3 ⟨rfl, n3⟩
    have N3 := Lib.hid (N2.out.trans n3)
    have B3 := Lib.hid (B2.out.nx n3)
    clear n3 H3
    go_wp2_with fail
    refine (H4.out v2 _ (HR.out.nx N3.out) B3.out).mono ?_
    rintro e w4 ⟨rfl, n4⟩
    have N4 := Lib.hid (N3.out.trans n4)
    clear n4 H4
    go_wp2_with fail
    refine (HL.out _).mono ?_
    rintro e w5 ⟨rfl, n5⟩
    have N5 := Lib.hid (N4.out.trans n5)
    go_wp2_with fail
    go_ret
    exact ⟨rfl, N5.out⟩
  · have HB : putBs es = [] := by unfold putBs; rw [if_neg hE]
    have dE : (putEr es != 0) = true := by rw [bne_iff_ne]; exact hE
    rw [HB] at H1
    clear h0 hn hs fs HB hE
    generalize putEr es = E at *
    go_enter Try.func5, Try.ntmps5
    go_wp2_with fail
    refine H1.out.mono ?_
    rintro e w1 ⟨v1, rfl, o1, n1⟩
    have N1 := Lib.hid n1
    obtain ⟨A1, c1, rfl, -, -, -⟩ := o1.rd
    clear n1 o1 H1
    go_wp2_with fail
    refine (HL.out _).mono ?_
    rintro e w5 ⟨rfl, n5⟩
    have N5 := Lib.hid (N1.out.trans n5)
    go_wp2_with fail
    go_ret
    exact ⟨rfl, N5.out⟩
end Go.Proofs.Ytbhoflmdhlchlaa
