/- THE DOCUMENT'S LAYER 2: Padded, List. -/
import Derived.Test.YtpgdfboogjapeaaDoorShaR1
namespace Go.Proofs.YtpgdfboogjapeaaDoor
open Go.RowKit
set_option linter.unusedVariables false
set_option linter.unusedSimpArgs false

theorem beR_get (n : Nat) : ∀ (k i : Nat) (h : i < k), (beR n k)[i]? = some (UInt8.ofNat (n / 256 ^ (k - 1 - i)))
  | k + 1, 0, _ => by simp [beR]
  | k + 1, i + 1, h => by
    rw [beR, List.getElem?_cons_succ, beR_get n k i (by omega)]
    rw [show k - 1 - i = k + 1 - 1 - (i + 1) by omega]
theorem beR_take (n i : Nat) (h : i < 8) : (beR n 8).take (i + 1) = (beR n 8).take i ++ [UInt8.ofNat (n / 256 ^ (7 - i))] := by
  have hl : i < (beR n 8).length := by rw [beR_length]; exact h
  rw [List.take_succ_eq_append_getElem hl]
  have := beR_get n 8 i h
  rw [List.getElem?_eq_getElem hl, Option.some.injEq] at this
  rw [this]
theorem gap_more (n j : Nat) (h : j < gapN n) : (n + 1 + j) % 64 ≠ 56 := by unfold gapN at h; omega
theorem gap_done (n : Nat) : (n + 1 + gapN n) % 64 = 56 := by unfold gapN; omega
theorem gap_lt (n : Nat) : gapN n < 64 := by unfold gapN; omega

set_option maxHeartbeats 2000000 in
theorem rpadded_any (vb : Value) (l : List UInt8) (w : World) (hr : Rd w vb l) (hn : l.length ≤ 140737488355000) :
    Calls Tryd.prog 19 #[vb] w fun e w' => ∃ v, e = .returned v ∧ Own w.heap.size w' v (padL l) ∧ Nx w w' := by
  have hrd := hr
  obtain ⟨A, c, rfl, hc, hm, ha⟩ := hr
  have HR := Lib.hid hrd
  have HP : Hid (padL l = l ++ 128 :: (List.replicate (gapN l.length) 0 ++ beR (8 * l.length) 8)) := Lib.hid rfl
  have HG1 := Lib.hid (gap_more l.length)
  have HG2 := Lib.hid (gap_done l.length)
  have HG3 := Lib.hid (gap_lt l.length)
  have hw8 : IntKind.u64.wrap (l.length : Int) = (l.length : Int) := by rw [IntKind.wrap_u64]; omega
  have hw9 : 8 * (l.length : Int) = ((8 * l.length : Nat) : Int) := by omega
  have hw10 : IntKind.u64.wrap ((8 * l.length : Nat) : Int) = ((8 * l.length : Nat) : Int) := by rw [IntKind.wrap_u64]; omega
  have hni : (l.length : Int) ≤ 140737488355000 := by omega
  have H8 : Hid (8 * l.length < 18446744073709551616) := Lib.hid (by omega)
  clear ha hm hc hrd
  go_enter Tryd.func19, Tryd.ntmps19
  go_wp2_with (at_builtin; refine wpList_app rfl (.tmp 6) (.tmp 7) _ rfl Tryd.underlying22 info_u8s w.heap.size _ _ [] l rfl rfl (Own.nil _ _) HR.out (by simp; omega) (Nat.le_refl _) ?_)
  intro v1 w1 o1 b1 _
  have N1 := Lib.hid ((Nx.refl w).app b1)
  have O1 := Lib.hid o1
  clear o1 b1
  go_wp2_with (at_builtin; refine wpList_app rfl (.tmp 9) (.tmp 10) _ rfl Tryd.underlying22 info_u8s w.heap.size _ (.slice (some ⟨w1.heap.size, 0, none⟩) 1 1) l [128] rfl rfl (O1.out.alloc _) (Rd.one _ _ _ _ rfl) (by simp; omega) (by have := N1.out.size; simp; omega) ?_)
  intro v2 w2 o2 b2 _
  have N2 := Lib.hid ((N1.out.alloc _).app b2)
  have O2 := Lib.hid o2
  clear o2 b2 O1 N1
  go_wp2
  go_loopw [3] (fun u wr => ∃ j : Nat, j ≤ gapN l.length ∧ Own w.heap.size wr u (l ++ [128] ++ List.replicate j 0) ∧ Hid (Nx w wr)) (fun u _ => gapN l.length + l.length + 1 - (match u with | .slice _ n _ => n | _ => 0))
  case atStart => exact ⟨0, by omega, by simpa using O2.out, N2⟩
  case round =>
    clear O2 N2
    obtain ⟨j, hj, hown, HN⟩ := hrel
    have HO := Lib.hid hown
    obtain ⟨A1, c1, hv, _, _, _⟩ := hown.rd
    subst hv
    have hlen : (l ++ [128] ++ List.replicate j (0 : UInt8)).length = l.length + 1 + j := by simp; omega
    rw [hlen]
    have HLEN := Lib.hid hlen
    clear hown hlen
    by_cases hlt : j < gapN l.length
    · have hne : (((l.length + 1 + j : Nat) : Int) % 64 != 56) = true := by
        have := HG1.out j hlt
        rw [bne_iff_ne]; omega
      have HJ : Hid (j < 64) := Lib.hid (by have := HG3.out; omega)
      generalize gapN l.length = gp at *
      go_wp2_with (at_builtin; refine wpList_app rfl (.tmp 16) (.tmp 17) _ rfl Tryd.underlying22 info_u8s w.heap.size _ (.slice (some ⟨wr.heap.size, 0, none⟩) 1 1) (l ++ [128] ++ List.replicate j 0) [0] rfl rfl ?c1 (Rd.one _ _ _ _ rfl) ?c2 ?c3 ?_)
      case c1 => rw [← HLEN.out]; exact HO.out.alloc _
      case c2 => rw [HLEN.out]; have := HJ.out; simp; omega
      case c3 => have := HN.out.size; simp; omega
      intro v' w' hown' hb' _
      have HO2 := Lib.hid hown'
      obtain ⟨A2, c2, hv2, _, _, _⟩ := hown'.rd
      subst hv2
      have HNN := Lib.hid ((HN.out.alloc _).app hb')
      clear hown' hb'
      go_wp2
      go_roundw
      case rel => exact ⟨j + 1, by omega, by
        have h := HO2.out
        rw [List.replicate_succ', ← List.append_assoc]
        simpa using h, HNN⟩
      case measure => simp; omega
    · obtain rfl : j = gapN l.length := by omega
      have hne : (((l.length + 1 + gapN l.length : Nat) : Int) % 64 != 56) = false := by
        have := HG2.out
        rw [bne_eq_false_iff_eq]; omega
      have HGG := Lib.hid (show l.length + 1 + gapN l.length < l.length + 65 by have := HG3.out; omega)
      have HL1 : Hid ((l ++ [128] ++ List.replicate (gapN l.length) (0 : UInt8)).length ≤ l.length + 65) := Lib.hid (by rw [HLEN.out]; have := HGG.out; omega)
      have HP2 : Hid (padL l = (l ++ [128] ++ List.replicate (gapN l.length) (0 : UInt8)) ++ beR (8 * l.length) 8) := Lib.hid (by rw [HP.out]; simp)
      rw [← HLEN.out]
      rw [← HLEN.out] at hne
      clear HP HG1 HG2 HG3 HGG HLEN hlt hj
      generalize l ++ [128] ++ List.replicate (gapN l.length) (0 : UInt8) = M at *
      generalize 8 * l.length = N8 at *
      go_wp2
      go_loopw [3, 5] (fun u i wr => ∃ k : Nat, k ≤ 8 ∧ i = .int .i64 k ∧ Own w.heap.size wr u (M ++ (beR N8 8).take k) ∧ Hid (Nx w wr)) (fun _ i _ => 8 - (intOf i).toNat)
      case atStart => exact ⟨0, by omega, rfl, by simpa using HO.out, HN⟩
      case round =>
        clear HO HN
        obtain ⟨k, hk, rfl, hown, HN⟩ := hrel
        by_cases hlt : k < 8
        · have hk8 : (k : Int) < 8 := by omega
          obtain ⟨p, hp⟩ : ∃ p : Nat, 56 - 8 * (k : Int) = (p : Int) := ⟨56 - 8 * k, by omega⟩
          have hp56 : (p : Int) < 64 := by omega
          have hpw : IntKind.u64.wrap (p : Int) = (p : Int) := by rw [IntKind.wrap_u64]; omega
          have HB := Lib.hid (u8_shr' N8 p (7 - k) (by omega))
          have HT := Lib.hid (beR_take N8 k hlt)
          have HTL : Hid (((beR N8 8).take k).length ≤ 8) := Lib.hid (by rw [List.length_take, beR_length]; omega)
          go_wp2_with (at_builtin; refine wpList_app rfl (.tmp 27) (.tmp 35) _ rfl Tryd.underlying22 info_u8s w.heap.size _ (.slice (some ⟨wr.heap.size, 0, none⟩) 1 1) (M ++ (beR N8 8).take k) [UInt8.ofNat (N8 / 256 ^ (7 - k))] rfl rfl (hown.alloc _) (Rd.one _ _ _ _ HB.out) ?c2 ?c3 ?_)
          case c2 => have := HTL.out; have := HL1.out; simp only [List.length_append, List.length_singleton]; omega
          case c3 => have := HN.out.size; simp; omega
          intro v' w' hown' hb' _
          have HNN := Lib.hid ((HN.out.alloc _).app hb')
          have HO2 := Lib.hid hown'
          clear hown' hb' hown
          go_wp2
          go_roundw
          case rel => exact ⟨k + 1, by omega, by go_num, by rw [HT.out]; exact HO2.out, HNN⟩
          case measure => simp [intOf]; omega
        · obtain rfl : k = 8 := by omega
          have e8 : (beR N8 8).take 8 = beR N8 8 := List.take_of_length_le (by rw [beR_length]; omega)
          rw [e8, ← HP2.out] at hown
          go_wp2
          go_ret
          exact ⟨_, rfl, hown, HN.out⟩
end Go.Proofs.YtpgdfboogjapeaaDoor
