/- LAYER 11: the walk of CodeJoin. -/
import Derived.Test.YtbhoflmdhlchlaaLawCodeReads
namespace Go.Proofs.Ytbhoflmdhlchlaa
open Go Go.RowKit
set_option linter.unusedVariables false
set_option linter.unusedSimpArgs false
set_option linter.unusedVariables false
set_option linter.unusedSimpArgs false

theorem read_join {a b : List UInt8} (ha : (readS a).2 = 0) (hb : (readS b).2 = 0) :
    (200 < (readS a).1.length + (readS b).1.length → readS (a ++ b) = ([], 3)) ∧ ((readS a).1.length + (readS b).1.length ≤ 200 → readS (a ++ b) = ((readS a).1 ++ (readS b).1, 0)) := by
  rcases read_got a with ⟨g, _⟩ | ⟨_, g2, g3, g4⟩
  · exact absurd ha g
  rcases read_got b with ⟨g, _⟩ | ⟨_, k2, k3, k4⟩
  · exact absurd hb g
  generalize (readS a).1 = x at *
  generalize (readS b).1 = y at *
  have e : a ++ b = allT (x ++ y) := by rw [allT_append, g4, k4]
  have hany : (x ++ y).any badS = false := by rw [List.any_append, g3, k3]; rfl
  rw [e]
  exact ⟨fun h => rdG_long _ _ _ hany (by rw [List.length_append]; exact h), fun h => read_text _ hany (by rw [List.length_append]; exact h)⟩
set_option maxRecDepth 100000 in
set_option maxHeartbeats 8000000 in
theorem codeJoin_law {w : World} (v0 : Value) (l0 : List UInt8) (h0 : Rd w v0 l0) (hr0 : l0.length ≤ 140737488351232) (v1 : Value) (l1 : List UInt8) (h1 : Rd w v1 l1) (hr1 : l1.length ≤ 140737488351232) (hs : l0.length + l1.length ≤ 1048576) :
    Calls Try.prog 7 #[v0, v1] w fun e w' => e = .returned (.bool true) ∧ Nx w w' := by
  have HR0 := Lib.hid h0
  have HR1 := Lib.hid h1
  have HA := Lib.hid (cread_any v0 l0 w h0 (by omega))
  have HB := Lib.hid (fun w h => cread_any v1 l1 w h (by omega))
  have HC := Lib.hid (fun v w h => cread_any v (l0 ++ l1) w h (by rw [List.length_append]; omega))
  have HL := Lib.hid lives_any
  have HSM := Lib.hid hs
  have L0 := Lib.hid (read_len l0)
  have L1 := Lib.hid (read_len l1)
  have HJ := Lib.hid (fun h1 h2 => read_join (a := l0) (b := l1) h1 h2)
  obtain ⟨A0, c0, rfl, -, -, -⟩ := h0
  obtain ⟨A1, c1, rfl, -, -, -⟩ := h1
  clear hs hr0 hr1
  generalize hS0 : readS l0 = S0 at *
  generalize hS1 : readS l1 = S1 at *
  generalize hS2 : readS (l0 ++ l1) = S2 at *
  obtain ⟨X, E0⟩ := S0
  obtain ⟨Y, E1⟩ := S1
  obtain ⟨Z, E2⟩ := S2
  dsimp only at *
  clear hS0 hS1 hS2
  go_enter Try.func7, Try.ntmps7
  go_wp2_with fail
  refine HA.out.mono ?_
  rintro e w1 ⟨vx, rfl, ox, nx⟩
  have N1 := Lib.hid nx
  have X1 := Lib.hid ox.rd
  obtain ⟨A3, c3, fs3, rfl, -, -, -, -⟩ := ox.rd.parts
  clear nx ox HA
  go_wp2_with fail
  refine (HB.out _ (HR1.out.nx N1.out)).mono ?_
  rintro e w2 ⟨vy, rfl, oy, ny⟩
  have N2 := Lib.hid (N1.out.trans ny)
  have X2 := Lib.hid (X1.out.nx ny)
  have Y2 := Lib.hid oy.rd
  obtain ⟨A4, c4, fs4, rfl, -, -, -, -⟩ := oy.rd.parts
  clear ny oy HB X1
  go_wp2_with (at_builtin; refine wpList_app rfl (.tmp 23) (.tmp 24) _ rfl Try.underlying23 info_u8 w2.heap.size (.slice none 0 0) (.slice A0 l0.length c0) [] l0 rfl rfl (Own.nil _ _) (HR0.out.nx N2.out) (by have := HSM.out; simp; omega) (Nat.le_refl _) ?_)
  intro va w3 oa ba _
  (try rw [List.nil_append] at oa)
  have OA := Lib.hid oa
  have N23 : Nx w2 w3 := ba
  have N3 := Lib.hid (N2.out.trans N23)
  have HN23 := Lib.hid N23
  clear oa ba N23
  go_wp2_with (at_builtin; refine wpList_app rfl (.tmp 26) (.tmp 27) _ rfl Try.underlying23 info_u8 w2.heap.size va (.slice A1 l1.length c1) l0 l1 rfl rfl OA.out (HR1.out.nx N3.out) (by have := HSM.out; omega) HN23.out.size ?_)
  intro vb w4 ob bb _
  have N24 : Nx w2 w4 := HN23.out.app bb
  have N4 := Lib.hid (N2.out.trans N24)
  have X4 := Lib.hid (X2.out.nx N24)
  have Y4 := Lib.hid (Y2.out.nx N24)
  have HQ := Lib.hid (HC.out _ _ ob.rd)
  clear ob bb N24 HN23 N3 HC X2 Y2 OA
  go_wp2_with fail
  refine HQ.out.mono ?_
  rintro e w5 ⟨vz, rfl, oz, nz⟩
  have N5 := Lib.hid (N4.out.trans nz)
  have X5 := Lib.hid (X4.out.nx nz)
  have Y5 := Lib.hid (Y4.out.nx nz)
  have Z5 := Lib.hid oz.rd
  clear oz nz HQ N4 X4 Y4
  by_cases e0 : E0 = 0
  · subst e0
    by_cases e1 : E1 = 0
    · subst e1
      obtain ⟨j1, j2⟩ := HJ.out rfl rfl
      by_cases hgt : 200 < X.length + Y.length
      · have := j1 hgt
        injection this with j3 j4
        subst j3 j4
        have l0' := L0.out
        have l1' := L1.out
        have hg : (200 : Int) < (X.length : Int) + (Y.length : Int) := by omega
        have hw : wrap64 ((X.length : Int) + (Y.length : Int)) = (X.length : Int) + (Y.length : Int) := by unfold wrap64; omega
        clear j1 j2 hgt HJ l0' l1'
        go_wp2_with fail
        refine (HL.out _).mono ?_
        rintro e w6 ⟨rfl, n6⟩
        have N6 := Lib.hid (N5.out.trans n6)
        go_wp2_with fail
        go_ret
        exact ⟨rfl, N6.out⟩
      · have := j2 (by omega)
        injection this with j3 j4
        subst j3 j4
        have l0' := L0.out
        have l1' := L1.out
        have hg : ¬ (200 : Int) < (X.length : Int) + (Y.length : Int) := by omega
        have hw : wrap64 ((X.length : Int) + (Y.length : Int)) = (X.length : Int) + (Y.length : Int) := by unfold wrap64; omega
        obtain ⟨fx, fx1, fx2⟩ := X5.out
        obtain ⟨fy, fy1, fy2⟩ := Y5.out
        have FX1 := Lib.hid fx1
        have FX2 := Lib.hid (fx2.apart (s := none) (fun q hq => by cases hq))
        have FY1 := Lib.hid fy1
        have FY2 := Lib.hid fy2
        clear j1 j2 hgt HJ l0' l1' fx1 fx2 fy1 fy2
        go_wp2_with (first | (at_builtin; refine wpList_appE stepEl rfl (.tmp 52) (.tmp 53) 22 rfl (.agg #[.int .u8 0, .slice none 0 0]) 32 Try.underlying22 info_stepb rfl w5.heap.size (.slice none 0 0) (.slice A3 X.length c3) [] X fx rfl rfl (OwnE.nil _ _) FX1.out FX2.out ?e1 ?e2 (Nat.le_refl _) ?_))
        case e1 => have := L0.out; simp; omega
        case e2 => have := L0.out; simp [maxLen]; omega
        intro va w6 oa ba _
        (try rw [List.nil_append] at oa)
        have OA := Lib.hid oa
        have N56 : Nx w5 w6 := ba
        have HN56 := Lib.hid N56
        have GY1 := Lib.hid (FY1.out.nx N56)
        have GY2 := Lib.hid (FY2.out.to N56 (s := va.ownBlock) fun q hq => (oa.blk q hq).1)
        clear oa ba N56
        go_wp2_with (first | (at_builtin; refine wpList_appE stepEl rfl (.tmp 55) (.tmp 56) 22 rfl (.agg #[.int .u8 0, .slice none 0 0]) 32 Try.underlying22 info_stepb rfl w5.heap.size va (.slice A4 Y.length c4) X Y fy rfl rfl OA.out GY1.out GY2.out ?f1 ?f2 HN56.out.size ?_))
        case f1 => have := L0.out; have := L1.out; omega
        case f2 => have := L0.out; have := L1.out; simp [maxLen]; omega
        intro vb w7 ob bb _
        have N57 : Nx w5 w7 := HN56.out.app bb
        have N7 := Lib.hid (N5.out.trans N57)
        have HS := Lib.hid (rsameS_yes vz vb (X ++ Y) w7 (Z5.out.nx N57) ob.rd (by have := L0.out; have := L1.out; rw [List.length_append]; omega))
        clear ob bb N57 HN56 N5 OA GY1 GY2
        go_wp2_with fail
        refine HS.out.mono ?_
        rintro e w8 ⟨rfl, n8⟩
        have N8 := Lib.hid (N7.out.trans n8)
        clear n8 HS
        go_wp2_with fail
        refine (HL.out _).mono ?_
        rintro e w9 ⟨rfl, n9⟩
        have N9 := Lib.hid (N8.out.trans n9)
        go_wp2_with fail
        go_ret
        exact ⟨rfl, N9.out⟩
    · have dE : (E1 != 0) = true := by rw [bne_iff_ne]; exact e1
      clear e1 HJ
      go_wp2_with fail
      refine (HL.out _).mono ?_
      rintro e w6 ⟨rfl, n6⟩
      have N6 := Lib.hid (N5.out.trans n6)
      go_wp2_with fail
      go_ret
      exact ⟨rfl, N6.out⟩
  · have dE : (E0 != 0) = true := by rw [bne_iff_ne]; exact e0
    clear e0 HJ
    go_wp2_with fail
    refine (HL.out _).mono ?_
    rintro e w6 ⟨rfl, n6⟩
    have N6 := Lib.hid (N5.out.trans n6)
    go_wp2_with fail
    go_ret
    exact ⟨rfl, N6.out⟩
end Go.Proofs.Ytbhoflmdhlchlaa
