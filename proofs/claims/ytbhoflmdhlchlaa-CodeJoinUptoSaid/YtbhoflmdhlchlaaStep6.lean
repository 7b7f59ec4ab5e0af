/- LAYER 11: Put of the document. -/
import Derived.Test.YtbhoflmdhlchlaaStep5
namespace Go.Proofs.Ytbhoflmdhlchlaa
open Go Go.RowKit
set_option linter.unusedVariables false
set_option linter.unusedSimpArgs false
set_option linter.unusedVariables false
set_option linter.unusedSimpArgs false

theorem low2 (n : Nat) : low n 2 = [UInt8.ofNat (n % 256), UInt8.ofNat (n / 256)] := by
  have : UInt8.ofNat (n % 256) = UInt8.ofNat n := by apply UInt8.toNat_inj.1; simp
  rw [this]
  simp [low]
theorem Rd.three (w : World) (x y z : Int) (a b c : UInt8) (hx : x = (a.toNat : Int)) (hy : y = (b.toNat : Int)) (hz : z = (c.toNat : Int)) : Rd (w.alloc (.cells #[.int .u8 x, .int .u8 y, .int .u8 z] 5)) (.slice (some ⟨w.heap.size, 0, none⟩) 3 3) [a, b, c] := by
  subst hx hy hz
  exact Rd.lit w [a, b, c] _ _ _ rfl rfl (by simp) rfl
set_option maxRecDepth 100000 in
set_option maxHeartbeats 2000000 in
theorem rput_any (v : Value) (es : List Step) (w : World) (h : RdE stepEl w v es) (hn : es.length ≤ 140737488355328) (hbk : bulkS es ≤ 10000000) :
    Calls Try.prog 15 #[v] w fun e w' => ∃ r, e = .returned (.tuple #[r, .int .i64 (putEr es)]) ∧ Own w.heap.size w' r (putBs es) ∧ Nx w w' := by
  have HR := Lib.hid h
  have HBK := Lib.hid hbk
  obtain ⟨A, c, fs, rfl, -, -, -, -⟩ := h.parts
  have hjb : (es.length : Int) ≤ 140737488355328 := by omega
  clear h hn hbk fs
  go_enter Try.func15, Try.ntmps15
  go_wp2_with fail
  go_loopw [4] (fun i wr => ∃ (j : Nat), j ≤ es.length ∧ i = .int .i64 j ∧ Hid ((es.take j).any badS = false) ∧ Nx w wr) (fun i _ => es.length - (intOf i).toNat)
  case atStart => exact ⟨0, by omega, rfl, show _ = _ by simp, Nx.refl _⟩
  case round =>
    obtain ⟨j, hj, rfl, HP, hx⟩ := hrel
    by_cases hlt : j < es.length
    · obtain ⟨b, o, c', u, e, hb, g0, g1, hr⟩ := step_at (HR.out.nx hx) j hlt
      injection e with e1 e2 e3
      subst e1
      have hlt' : (j : Int) < (es.length : Int) := by omega
      have hj0 : (0 : Int) ≤ (j : Int) := by omega
      have HT : Hid (es.take (j + 1) = es.take j ++ [es[j]]) := Lib.hid (List.take_succ_eq_append_getElem hlt)
      have HM : Hid (es[j] ∈ es) := Lib.hid (List.getElem_mem hlt)
      have HRA := Lib.hid hr.1
      obtain ⟨B9, d9, rfl⟩ := hr.sl
      have HX := Lib.hid hx
      generalize es[j] = a at *
      obtain ⟨op, l⟩ := a
      dsimp only at g0 g1 HRA hr
      have HCE := Lib.hid (step_cells g0 g1)
      have HSZ := Lib.hid (stepsz (.int .u8 (op.toNat : Int)) (.slice B9 l.length d9))
      have HMN := Lib.hid (fun w h => may_any op.toNat (.slice B9 l.length d9) l w h)
      clear g0 g1 hr e2 e3 hx
      go_wp2_with (first | (refine wpList_load_at rfl 55 (.tmp 16) rfl b (o + j * 2) rfl #[.int .u8 (op.toNat : Int), .slice B9 l.length d9] _ HCE.out Try.underlying55 rfl HSZ.out ?_))
      refine (HMN.out _ HRA.out).mono ?_
      rintro e w2 ⟨rfl, n2⟩
      have N2 := Lib.hid (HX.out.trans n2)
      clear n2 HCE
      rcases hms : mayS op.toNat l.length with _ | _
      · have HBD : Hid (badS (op, l) = true) := Lib.hid (by unfold badS; rw [hms]; rfl)
        have HPE : Hid (putEr es = 2) := Lib.hid (by unfold putEr; rw [if_pos (List.any_eq_true.2 ⟨_, HM.out, HBD.out⟩)])
        have HPB : Hid (putBs es = []) := Lib.hid (by unfold putBs; rw [HPE.out]; rfl)
        clear hms
        go_wp2_with fail
        go_ret2
        exact ⟨_, by rw [HPE.out]; rfl, by rw [HPB.out]; exact Own.nil _ _, N2.out⟩
      · have HBD : Hid (badS (op, l) = false) := Lib.hid (by unfold badS; rw [hms]; rfl)
        clear hms
        go_wp2_with fail
        go_roundw
        case rel => exact ⟨j + 1, by omega, by go_num, show _ = _ by rw [HT.out, List.any_append, HP.out]; simp [HBD.out], N2.out⟩
        case measure => simp [intOf]; omega
    · have hj' : j = es.length := by omega
      subst hj'
      rw [List.take_of_length_le (Nat.le_refl _)] at HP
      by_cases h2 : 200 < es.length
      · have g2 : (200 : Int) < (es.length : Int) := by omega
        have HPE : Hid (putEr es = 3) := Lib.hid (by unfold putEr; rw [HP.out, if_neg (by simp), if_pos h2])
        have HPB : Hid (putBs es = []) := Lib.hid (by unfold putBs; rw [HPE.out]; rfl)
        clear h2
        go_wp2_with fail
        go_ret2
        exact ⟨_, by rw [HPE.out]; rfl, by rw [HPB.out]; exact Own.nil _ _, hx⟩
      have g2 : ¬ (200 : Int) < (es.length : Int) := by omega
      have HPE : Hid (putEr es = 0) := Lib.hid (by unfold putEr; rw [HP.out, if_neg (by simp), if_neg h2])
      have HPB : Hid (putBs es = allT es) := Lib.hid (by unfold putBs; rw [HPE.out, if_pos rfl])
      have NS := Lib.hid hx
      clear h2 hj hx
      go_wp2_with fail
      go_loopw [5, 6] (fun s i wr => ∃ (j : Nat) (ss : Value), j ≤ es.length ∧ i = .int .i64 j ∧ ss = s ∧ Own w.heap.size wr ss (allT (es.take j)) ∧ Nx w wr) (fun _ i _ => es.length - (intOf i).toNat)
      case atStart => exact ⟨0, _, by omega, rfl, rfl, by simpa [allT] using Own.nil _ _, NS.out⟩
      case round =>
        obtain ⟨j, s, hj, rfl, rfl, hown, hx⟩ := hrel
        by_cases hlt : j < es.length
        · obtain ⟨b, o, c', u, e, hb, g0, g1, hr⟩ := step_at HR.out j hlt
          injection e with e1 e2 e3
          subst e1
          have hlt' : (j : Int) < (es.length : Int) := by omega
          have hj0 : (0 : Int) ≤ (j : Int) := by omega
          have HT : Hid (es.take (j + 1) = es.take j ++ [es[j]]) := Lib.hid (List.take_succ_eq_append_getElem hlt)
          have HM : Hid (es[j] ∈ es) := Lib.hid (List.getElem_mem hlt)
          have HLB : Hid ((allT (es.take j)).length ≤ 10000000) := Lib.hid (Nat.le_trans (Nat.le_trans (allT_len _) (bulkS_take es j)) HBK.out)
          obtain ⟨B9, d9, rfl⟩ := hr.sl
          have HRA := Lib.hid hr.1
          have HX := Lib.hid hx
          generalize es[j] = a at *
          obtain ⟨op, l⟩ := a
          dsimp only at g0 g1 HRA hr
          have HMS : Hid (mayS op.toNat l.length = true) := Lib.hid (by
            cases hq : mayS op.toNat l.length
            · have h1 := HP.out
              rw [List.any_eq_true.2 ⟨_, HM.out, by unfold badS; rw [hq]; rfl⟩] at h1
              cases h1
            · rfl)
          have HML := Lib.hid (mayS_len HMS.out)
          have k0 := (hx.cell (p := ⟨b, o + j * 2, none⟩) hb).trans g0
          have k1 : wr.cell? ⟨b, o + j * 2 + 1, none⟩ = some (.slice B9 l.length d9) := (hx.cell (p := ⟨b, o + (j * 2 + 1), none⟩) hb).trans g1
          have G1 := Lib.hid g1
          have HB := Lib.hid hb
          have HOW := Lib.hid hown
          clear g0 g1 hr e2 e3 hx hown hb
          by_cases ho : op = 1
          · subst ho
            by_cases hs : l.length < 128
            · have hs' : (l.length : Int) < 128 := by omega
              have e1 : (((1 : UInt8).toNat : Int) != 1) = false := by decide
              have hm2 : (l.length : Int) % 256 = (l.length : Int) := by omega
              have HV : Hid (textS 1 l = [UInt8.ofNat l.length] ++ l) := Lib.hid (by unfold textS; rw [if_pos rfl, if_pos hs]; rfl)
              go_wp2_with (at_builtin; refine wpList_app rfl (.tmp 52) (.tmp 55) _ rfl Try.underlying23 info_u8 w.heap.size s (.slice (some ⟨wr.heap.size, 0, none⟩) 1 1) (allT (es.take j)) [UInt8.ofNat l.length] rfl rfl (HOW.out.alloc _) (Rd.one _ _ _ _ ?c1) ?cc ?cd ?_)
              case c1 => have := hs'; simp [IntKind.wrap, IntKind.bits, IntKind.signed, UInt8.toNat_ofNat']; omega
              case cc => have := HLB.out; simp; omega
              case cd => have := HX.out.size; simp; omega
              intro v1 w1 o1 b1 _
              have NX1 := Lib.hid ((HX.out.alloc _).app b1)
              have OW1 := Lib.hid o1
              have k2 : w1.cell? ⟨b, o + j * 2 + 1, none⟩ = some (.slice B9 l.length d9) := (NX1.out.cell (p := ⟨b, o + (j * 2 + 1), none⟩) HB.out).trans G1.out
              have HR1 := Lib.hid (HRA.out.nx NX1.out)
              clear o1 b1 k0 k1
              go_wp2_with (at_builtin; refine wpList_app rfl (.tmp 66) (.tmp 71) _ rfl Try.underlying23 info_u8 w.heap.size v1 (.slice B9 l.length d9) (allT (es.take j) ++ [UInt8.ofNat l.length]) l rfl rfl OW1.out HR1.out (by have := HLB.out; have := HML.out; simp; omega) NX1.out.size ?_; intro v' w' o' b' _)
              go_roundw
              case rel => exact ⟨j + 1, _, by omega, by go_num, rfl, by rw [HT.out, allT_snoc, HV.out, ← List.append_assoc]; exact o', NX1.out.app b'⟩
              case measure => simp [intOf]; omega
            · have hs' : ¬ (l.length : Int) < 128 := by omega
              have e1 : (((1 : UInt8).toNat : Int) != 1) = false := by decide
              have hq : (l.length : Int).tdiv 256 = ((l.length / 256 : Nat) : Int) := rfl
              have hr : (l.length : Int).tmod 256 = ((l.length % 256 : Nat) : Int) := rfl
              have HV : Hid (textS 1 l = [128, UInt8.ofNat (l.length % 256), UInt8.ofNat (l.length / 256)] ++ l) := Lib.hid (by unfold textS; rw [if_pos rfl, if_neg hs, low2]; rfl)
              go_wp2_with (at_builtin; refine wpList_app rfl (.tmp 57) (.tmp 64) _ rfl Try.underlying23 info_u8 w.heap.size s (.slice (some ⟨wr.heap.size, 0, none⟩) 3 3) (allT (es.take j)) [128, UInt8.ofNat (l.length % 256), UInt8.ofNat (l.length / 256)] rfl rfl (HOW.out.alloc _) (Rd.three _ _ _ _ 128 _ _ rfl ?c1 ?c2) ?cc ?cd ?_)
              case c2 => rw [show wrap64 ((l.length : Int) / 256) = (l.length : Int) / 256 by have := HML.out; unfold wrap64; omega]
              case cc => have := HLB.out; simp; omega
              case cd => have := HX.out.size; simp; omega
              intro v1 w1 o1 b1 _
              have NX1 := Lib.hid ((HX.out.alloc _).app b1)
              have OW1 := Lib.hid o1
              have k2 : w1.cell? ⟨b, o + j * 2 + 1, none⟩ = some (.slice B9 l.length d9) := (NX1.out.cell (p := ⟨b, o + (j * 2 + 1), none⟩) HB.out).trans G1.out
              have HR1 := Lib.hid (HRA.out.nx NX1.out)
              clear o1 b1 k0 k1
              go_wp2_with (at_builtin; refine wpList_app rfl (.tmp 66) (.tmp 71) _ rfl Try.underlying23 info_u8 w.heap.size v1 (.slice B9 l.length d9) (allT (es.take j) ++ [128, UInt8.ofNat (l.length % 256), UInt8.ofNat (l.length / 256)]) l rfl rfl OW1.out HR1.out (by have := HLB.out; have := HML.out; simp; omega) NX1.out.size ?_; intro v' w' o' b' _)
              go_roundw
              case rel => exact ⟨j + 1, _, by omega, by go_num, rfl, by rw [HT.out, allT_snoc, HV.out, ← List.append_assoc]; exact o', NX1.out.app b'⟩
              case measure => simp [intOf]; omega
          · have e1 : ((op.toNat : Int) != 1) = true := by
              rw [bne_iff_ne]; intro h; exact ho (UInt8.toNat_inj.1 (show op.toNat = 1 by omega))
            have hl0 : l = [] := by
              have h1 := HMS.out
              unfold mayS at h1
              rw [if_neg (by intro h; exact ho (UInt8.toNat_inj.1 (by rw [h]; rfl)))] at h1
              simp at h1
              exact h1.2.2
            have HL0 := Lib.hid hl0
            clear hl0
            have HV : Hid (textS op l = [op + 127] ++ l) := Lib.hid (by unfold textS; rw [if_neg ho, HL0.out]; rfl)
            go_wp2_with (at_builtin; refine wpList_app rfl (.tmp 41) (.tmp 48) _ rfl Try.underlying23 info_u8 w.heap.size s (.slice (some ⟨wr.heap.size, 0, none⟩) 1 1) (allT (es.take j)) [op + 127] rfl rfl (HOW.out.alloc _) (Rd.one _ _ _ _ ?d1) ?dc ?dd ?_)
            case d1 => rw [UInt8.toNat_add, Int.add_comm]; rfl
            case dc => have := HLB.out; simp; omega
            case dd => have := HX.out.size; simp; omega
            intro v1 w1 o1 b1 _
            have NX1 := Lib.hid ((HX.out.alloc _).app b1)
            have OW1 := Lib.hid o1
            have k2 : w1.cell? ⟨b, o + j * 2 + 1, none⟩ = some (.slice B9 l.length d9) := (NX1.out.cell (p := ⟨b, o + (j * 2 + 1), none⟩) HB.out).trans G1.out
            have HR1 := Lib.hid (HRA.out.nx NX1.out)
            clear o1 b1 k0 k1
            go_wp2_with (at_builtin; refine wpList_app rfl (.tmp 66) (.tmp 71) _ rfl Try.underlying23 info_u8 w.heap.size v1 (.slice B9 l.length d9) (allT (es.take j) ++ [op + 127]) l rfl rfl OW1.out HR1.out (by have := HLB.out; have := HML.out; simp; omega) NX1.out.size ?_; intro v' w' o' b' _)
            go_roundw
            case rel => exact ⟨j + 1, _, by omega, by go_num, rfl, by rw [HT.out, allT_snoc, HV.out, ← List.append_assoc]; exact o', NX1.out.app b'⟩
            case measure => simp [intOf]; omega
        · have hj' : j = es.length := by omega
          subst hj'
          rw [List.take_of_length_le (Nat.le_refl _)] at hown
          go_wp2_with fail
          go_ret2
          exact ⟨_, by rw [HPE.out]; rfl, by rw [HPB.out]; exact hown, hx⟩
end Go.Proofs.Ytbhoflmdhlchlaa
