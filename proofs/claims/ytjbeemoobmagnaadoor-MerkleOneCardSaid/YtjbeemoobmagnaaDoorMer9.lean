/- LAYER 9, the document's: Way. -/
import Derived.Test.YtjbeemoobmagnaaDoorMer8
namespace Go.Proofs.YtjbeemoobmagnaaDoor
open Go Go.RowKit
set_option linter.unusedVariables false
set_option linter.unusedSimpArgs false
set_option linter.unusedVariables false
set_option linter.unusedSimpArgs false

set_option maxRecDepth 100000 in
set_option maxHeartbeats 4000000 in
theorem rway_yes (v : Value) (l : Hs) (n : Nat) (w : World) (hr : RdE elH w v l) (hn : l.length ≤ 1000) (hlt : n < l.length) :
    Calls Tryd.prog 34 #[v, .int .i64 (n : Int)] w fun e w' => ∃ v', e = .returned (.tuple #[v', .int .i64 0]) ∧ OwnE elH w.heap.size w' v' (wayF l n) ∧ Nx w w' := by
  have HRR := Lib.hid (rrows_any v l w hr hn)
  obtain ⟨F, hF⟩ : ∃ F, wayF l n = F := ⟨_, rfl⟩
  rw [hF]
  replace hF := Lib.hid (show [] ++ wayF l n = F from hF)
  obtain ⟨A, c, rfl, -⟩ := hr.h_parts
  have hn0 : ¬ (n : Int) < 0 := by omega
  have hn1 : ¬ (l.length : Int) ≤ (n : Int) := by omega
  have HLT := Lib.hid hlt
  have HN := Lib.hid hn
  have HP := Lib.hid (rowsF_pos l)
  have HBD : Hid ((rowsF l).length ≤ 1001) := Lib.hid (by have := rowsF_bound l; omega)
  obtain ⟨RS, hRS⟩ : ∃ RS, rowsF l = RS := ⟨_, rfl⟩
  have HD0 : Hid (RS.drop 0 = rowsF l) := Lib.hid (by rw [hRS]; rfl)
  rw [hRS] at HRR HP HBD
  generalize rootB l = RB at *
  clear hr hn hlt hRS
  go_enter Tryd.func34, Tryd.ntmps34
  go_wp2_with fail
  refine HRR.out.mono ?_
  rintro e w1 ⟨v1, rfl, r1, n1⟩
  have N1 := Lib.hid n1
  obtain ⟨A1, c1, rfl, hrow⟩ := r1.row
  have hrow2 := hrow HP.out
  clear hrow r1 n1 HRR
  obtain ⟨b, o, rfl, hb, hrow⟩ := hrow2
  have HROW := Lib.hid hrow
  have HB := Lib.hid hb
  have hbd : (RS.length : Int) ≤ 1001 := by have := HBD.out; omega
  clear hrow hb hn0 hn1
  generalize hrl : RS.length = rl at *
  replace hrl := Lib.hid hrl
  go_wp2_with fail
  go_loopw [1, 8, 9] (fun a u i wr => ∃ (L : Hs) (m k : Nat) (D : Hs), a = .int .i64 (m : Int) ∧ i = .int .i64 (k : Int) ∧ Hid (OwnE elH w1.heap.size wr u D) ∧ Hid (RS.drop k = rowsF L) ∧ Hid (m < L.length) ∧ Hid (D ++ wayF L m = F) ∧ Hid (L.length ≤ 1000) ∧ Hid (D.length + L.length ≤ 1001) ∧ Hid (Nx w1 wr)) (fun _ _ i _ => rl - (intOf i).toNat)
  case atStart => exact ⟨l, n, 0, [], rfl, rfl, Lib.hid (OwnE.nil _ _), HD0, HLT, hF, HN, Lib.hid (by have := HN.out; simp; omega), Lib.hid (Nx.refl w1)⟩
  case round =>
    clear hF HN HLT HD0
    obtain ⟨L, m, k, D, rfl, rfl, HO, HDR, HM, HF, HN, HD, HX⟩ := hrel
    obtain ⟨t, ht, ht1, ht2⟩ := rowsF_cons L
    have hlen : k + (rowsF L).length = rl := by
      have h1 := congrArg List.length HDR.out
      rw [List.length_drop, hrl.out] at h1
      have := rowsF_pos L
      omega
    have hkL : RS[k]? = some L := by
      have h1 := congrArg (·[0]?) HDR.out
      simp only [List.getElem?_drop, Nat.add_zero] at h1
      rw [h1, ht]; rfl
    have hki : (k : Int) ≤ 1001 := by omega
    by_cases h1 : L.length ≤ 1
    · have h1i : ¬ (k : Int) + 1 < (rl : Int) := by rw [ht, ht1 h1] at hlen; simp at hlen; omega
      have e1 : Hid (D = F) := Lib.hid (by rw [← HF.out, wayF_le h1, List.append_nil])
      clear ht ht1 ht2 hlen hkL h1
      go_wp2_with fail
      go_ret2
      exact ⟨_, rfl, by rw [← e1.out]; exact HO.out.mono N1.out.size, N1.out.trans HX.out⟩
    · have h1i : (k : Int) + 1 < (rl : Int) := by
        have := rowsF_pos (abv L)
        rw [ht, ht2 h1, List.length_cons] at hlen; omega
      have hk2 : Hid (k < rl) := Lib.hid (by omega)
      have HDR2 : Hid (RS.drop (k + 1) = rowsF (abv L)) := Lib.hid (by
        have h3 := congrArg (List.drop 1) HDR.out
        rw [List.drop_drop, ht, ht2 h1] at h3
        simpa using h3)
      obtain ⟨u, hu, ru⟩ := HROW.out k L hkL
      obtain ⟨A2, c2, rfl, -, -, h32, hcq⟩ := ru.h_parts
      have hcq2 := hcq (by omega)
      clear hcq
      obtain ⟨b2, o2, rfl, hb2, hcell⟩ := hcq2
      have hu2 := (HX.out.cell (p := ⟨b, o + k, none⟩) HB.out).trans hu
      have HJ : Hid (nbr m L.length < L.length) := Lib.hid (nbr_lt HM.out)
      have hJi : ((nbr m L.length : Nat) : Int) < (L.length : Int) := by have := HJ.out; omega
      have C1 : Hid (∀ i u, (hcel (L.getD (nbr m L.length) []))[i]? = some u → wr.cell? ⟨b2, o2 + nbr m L.length * 32 + i, none⟩ = some u) := Lib.hid fun i u hu => (HX.out.cell (p := ⟨b2, o2 + nbr m L.length * 32 + i, none⟩) hb2).trans (getD_cells hcell _ HJ.out i u hu)
      have LX := Lib.hid (h32.getD HJ.out)
      have HFN : Hid ((D ++ [L.getD (nbr m L.length) []]) ++ wayF (abv L) (m / 2) = F) := Lib.hid (by rw [← HF.out, wayF_gt h1]; simp)
      have HAL := Lib.hid (abv_length L)
      have HM2 : Hid (m / 2 < halfN L.length ∧ halfN L.length < L.length) := Lib.hid (by have := HM.out; unfold halfN; omega)
      have hmi : (m : Int) ≤ 1000 := by have := HM.out; have := HN.out; omega
      have HNI : (L.length : Int) ≤ 1000 := by have := HN.out; omega
      obtain ⟨x, hxe⟩ : ∃ x : Nat, (if m % 2 = 1 then m - 1 else m + 1) = x := ⟨_, rfl⟩
      have hxor := i64_xor1 m (by omega)
      rw [hxe] at hxor
      have HQ : Hid ((x < L.length ∧ nbr m L.length = x) ∨ (¬ x < L.length ∧ nbr m L.length = m)) := Lib.hid (by
        have := HM.out
        rw [← hxe]; unfold nbr
        split <;> (try split) <;> omega)
      clear hxe
      generalize hx : L.getD (nbr m L.length) [] = y at *
      clear hx
      generalize nbr m L.length = q at *
      have Z1 := Lib.hid (hashsz y LX.out)
      have hmk := Lib.hid (run_mk1h y LX.out)
      clear hcell h32 h1 ht ht1 ht2 hlen hkL hu ru hb2
      generalize hLn : L.length = n2 at *
      replace hLn := Lib.hid hLn
      go_upto_if 39 with (fail)
      go_cut [10] (fun oo wx => oo = .int .i64 (q : Int) ∧ wx = wr)
      case first =>
        rcases HQ.out with ⟨h1, h2⟩ | ⟨h1, h2⟩
        · have h1i : ¬ (n2 : Int) ≤ (x : Int) := by omega
          subst h2
          clear h1
          go_wp2_with fail
          go_meet
          exact ⟨rfl, rfl⟩
        · have h1i : (n2 : Int) ≤ (x : Int) := by omega
          subst h2
          clear h1
          go_wp2_with fail
          go_meet
          exact ⟨rfl, rfl⟩
      case rest =>
        obtain ⟨rfl, rfl⟩ := hcut
        have RX := Lib.hid (RdE.one_h wc y LX.out)
        have NA := Lib.hid ((Nx.refl wc).alloc (.cells (hcel y) 30))
        have HO1 := Lib.hid (HO.out.nx NA.out)
        have HX1 := Lib.hid (HX.out.trans NA.out)
        have HDD : Hid (D.length ≤ 1001) := Lib.hid (by have := HD.out; omega)
        go_wp2_with (first | (refine wpList_load_at rfl 30 (.tmp 47) rfl b2 (o2 + q * 32) rfl (hcel y) _ C1.out Tryd.underlying30 rfl Z1.out ?_) | (refine wpList_mk rfl 46 1 _ rfl #[(0, .agg (hcel y))] (by kernel_rfl) _ (hmk.out _) ?_) | (at_builtin; refine wpList_appE2 elH rfl (.tmp 41) (.tmp 49) 46 rfl (.agg (hcel (List.replicate 32 0))) 32 Tryd.underlying46 info_hash3 info_hash3z w1.heap.size _ (.slice (some ⟨wc.heap.size, 0, none⟩) 1 1) D [y] (hfs [y]) rfl rfl HO1.out RX.out (allE_hfs (H32.one LX.out) _ _) ?e1 ?e2 HX1.out.size ?_))
        case e1 => have := HDD.out; simp only [List.length_singleton]; omega
        case e2 => have := HDD.out; simp only [List.length_singleton, maxLen]; omega
        intro v' w' o' b' g' e'
        have HO2 := Lib.hid o'
        have HX2 := Lib.hid (HX1.out.app b')
        clear o' b' g' e' HO1 HX1 RX NA hmk C1 HO HX
        go_wp2_with fail
        go_roundw
        case rel => exact ⟨abv L, m / 2, k + 1, D ++ [y], rfl, by go_num, HO2, HDR2, Lib.hid (by rw [HAL.out]; exact HM2.out.1), HFN, Lib.hid (by rw [HAL.out]; have := HM2.out; have := HN.out; omega), Lib.hid (by rw [HAL.out, List.length_append, List.length_singleton]; have := HM2.out; have := HD.out; omega), HX2⟩
        case measure => have := hk2.out; simp [intOf]; omega
theorem rway_no (v : Value) (l : Hs) (n : Int) (w : World) (hr : RdE elH w v l) (hlt : n < 0 ∨ (l.length : Int) ≤ n) :
    Calls Tryd.prog 34 #[v, .int .i64 n] w fun e w' => e = .returned (.tuple #[.slice none 0 0, .int .i64 2]) ∧ w' = w := by
  obtain ⟨A, c, rfl, -⟩ := hr.h_parts
  clear hr
  rcases Int.lt_or_le n 0 with h | h
  · clear hlt
    go_enter Tryd.func34, Tryd.ntmps34
    go_wp2_with fail
    go_ret2
    exact ⟨rfl, rfl⟩
  · have h1 : (l.length : Int) ≤ n := by omega
    have h0 : ¬ n < 0 := by omega
    clear hlt
    go_enter Tryd.func34, Tryd.ntmps34
    go_wp2_with fail
    go_ret2
    exact ⟨rfl, rfl⟩
end Go.Proofs.YtjbeemoobmagnaaDoor
