/- LAYER 9: Way. -/
import Derived.Test.YtjbeemoobmagnaaDoorMer3
import Derived.Test.YtjbeemoobmagnaaDoorHs2
namespace Go.Proofs.YtjbeemoobmagnaaDoor
open Go Go.RowKit
set_option linter.unusedVariables false
set_option linter.unusedSimpArgs false
set_option linter.unusedVariables false
set_option linter.unusedSimpArgs false

theorem info_hash3z : (Value.agg (hcel (List.replicate 32 0))).cells.size = 32 := by kernel_rfl
set_option maxRecDepth 100000 in
set_option maxHeartbeats 4000000 in
theorem mway_yes (v : Value) (l : Hs) (n : Nat) (w : World) (hr : RdE elH w v l) (hn : l.length ≤ 1000) (hlt : n < l.length) (hk : KIs w) :
    Calls Tryd.prog 33 #[v, .int .i64 (n : Int)] w fun e w' => ∃ v', e = .returned (.tuple #[v', .int .i64 0]) ∧ OwnE elH w.heap.size w' v' (wayF l n) ∧ Nx w w' := by
  have HK := Lib.hid hk
  obtain ⟨F, hF⟩ : ∃ F, wayF l n = F := ⟨_, rfl⟩
  rw [hF]
  replace hF := Lib.hid (show [] ++ wayF l n = F from hF)
  have HR := Lib.hid (show RdA elH (Value.ownBlock (.slice none 0 0)) w v l from ⟨hr, fun _ q hq => by cases hq⟩)
  obtain ⟨A, c, rfl, -⟩ := hr.h_parts
  have hn0 : ¬ (n : Int) < 0 := by omega
  have hn1 : ¬ (l.length : Int) ≤ (n : Int) := by omega
  have HLT := Lib.hid hlt
  have HN := Lib.hid hn
  clear hk hr hn hlt
  go_enter Tryd.func33, Tryd.ntmps33
  go_wp2_with fail
  go_loopw [1, 6, 7] (fun a u r wr => ∃ (L : Hs) (m : Nat) (D : Hs), a = .int .i64 (m : Int) ∧ Hid (OwnE elH w.heap.size wr u D) ∧ Hid (RdA elH u.ownBlock wr r L) ∧ Hid (m < L.length) ∧ Hid (D ++ wayF L m = F) ∧ Hid (L.length ≤ 1000) ∧ Hid (D.length + L.length ≤ 1001) ∧ Hid (Nx w wr)) (fun _ _ r _ => lenOf r)
  case atStart => exact ⟨l, n, [], rfl, Lib.hid (OwnE.nil _ _), HR, HLT, hF, HN, Lib.hid (by have := HN.out; simp; omega), Lib.hid (Nx.refl w)⟩
  case round =>
    clear HR hF HN HLT hn0 hn1
    obtain ⟨L, m, D, rfl, HO, HR, HM, HF, HN, HD, HX⟩ := hrel
    obtain ⟨A, c, rfl, hc1, hc2, h32, hcq⟩ := HR.out.1.h_parts
    have HNI : (L.length : Int) ≤ 1000 := by have := HN.out; omega
    by_cases h1 : L.length ≤ 1
    · have h1i : ¬ (1 : Int) < (L.length : Int) := by omega
      have e1 : Hid (D = F) := Lib.hid (by rw [← HF.out, wayF_le h1, List.append_nil])
      clear hcq hc1 hc2 h32 h1
      go_wp2_with fail
      go_ret2
      exact ⟨_, rfl, by rw [← e1.out]; exact HO.out, HX.out⟩
    · have hcq2 := hcq (by omega)
      clear hcq
      obtain ⟨b, o, rfl, hb, hcell⟩ := hcq2
      have h1i : (1 : Int) < (L.length : Int) := by omega
      have HJ : Hid (nbr m L.length < L.length) := Lib.hid (nbr_lt HM.out)
      have HNB := Lib.hid (fun w => mnbr_any m L.length (by have := HN.out; omega) HM.out w)
      have hJi : ((nbr m L.length : Nat) : Int) < (L.length : Int) := by have := HJ.out; omega
      have C1 : Hid (∀ i u, (hcel (L.getD (nbr m L.length) []))[i]? = some u → wr.cell? ⟨b, o + nbr m L.length * 32 + i, none⟩ = some u) := Lib.hid fun i u hu => getD_cells hcell _ HJ.out i u hu
      have LX := Lib.hid (h32.getD HJ.out)
      have HFN : Hid ((D ++ [L.getD (nbr m L.length) []]) ++ wayF (abv L) (m / 2) = F) := Lib.hid (by rw [← HF.out, wayF_gt h1]; simp)
      have HAB := Lib.hid (fun W v (h : Nx w W) (hr : RdE elH W v L) => mabove_any v L W hr (by omega) HN.out (HK.out.nx h))
      have HAL := Lib.hid (abv_length L)
      have HAT := Lib.hid (abv_lt h1)
      have HM2 : Hid (m / 2 < halfN L.length ∧ halfN L.length < L.length) := Lib.hid (by have := HM.out; unfold halfN; omega)
      have hmi : (m : Int) ≤ 1000 := by have := HM.out; have := HN.out; omega
      have hmi0 : (0 : Int) ≤ (m : Int) := by omega
      generalize hx : L.getD (nbr m L.length) [] = x at *
      clear hx
      generalize nbr m L.length = q at *
      have Z1 := Lib.hid (hashsz x LX.out)
      have hmk := run_mk1h x LX.out
      clear hcell h32 h1 hb hc1 hc2
      generalize hLn : L.length = n2 at *
      replace hLn := Lib.hid hLn
      go_wp2_with fail
      refine (HNB.out _).mono ?_
      rintro e w1 ⟨rfl, rfl⟩
      have RX := Lib.hid (RdE.one_h w1 x LX.out)
      have NA := Lib.hid ((Nx.refl w1).alloc (.cells (hcel x) 30))
      have HO1 := Lib.hid (HO.out.nx NA.out)
      have HX1 := Lib.hid (HX.out.trans NA.out)
      have HR1 := Lib.hid (HR.out.nx NA.out)
      have HDD : Hid (D.length ≤ 1001) := Lib.hid (by have := HD.out; omega)
      replace hmk := Lib.hid hmk
      go_wp2_with (first | (refine wpList_load_at rfl 30 (.tmp 28) rfl b (o + q * 32) rfl (hcel x) _ C1.out Tryd.underlying30 rfl Z1.out ?_) | (refine wpList_mk rfl 46 1 _ rfl #[(0, .agg (hcel x))] (by kernel_rfl) _ (hmk.out _) ?_) | (at_builtin; refine wpList_appE2 elH rfl (.tmp 22) (.tmp 30) 46 rfl (.agg (hcel (List.replicate 32 0))) 32 Tryd.underlying46 info_hash3 info_hash3z w.heap.size _ (.slice (some ⟨w1.heap.size, 0, none⟩) 1 1) D [x] (hfs [x]) rfl rfl HO1.out RX.out (allE_hfs (H32.one LX.out) _ _) ?e1 ?e2 HX1.out.size ?_))
      case e1 => have := HDD.out; simp only [List.length_singleton]; omega
      case e2 => have := HDD.out; simp only [List.length_singleton, maxLen]; omega
      intro v' w' o' b' g' e'
      have HO2 := Lib.hid o'
      have HX2 := Lib.hid (HX1.out.app b')
      have HR2 := Lib.hid (HR1.out.next g' (by rw [alloc_size]; exact e'))
      clear o' b' g' e' HO1 HX1 HR1 RX NA hmk C1 HO HX HR
      go_wp2_with fail
      refine (HAB.out _ _ HX2.out HR2.out.1).mono ?_
      rintro e w3 ⟨v3, rfl, o3, n3⟩
      have HO3 := Lib.hid (HO2.out.nx n3)
      have HX3 := Lib.hid (HX2.out.trans n3)
      have HR3 : Hid (RdA elH v'.ownBlock w3 v3 (abv L)) := Lib.hid ⟨o3.rd, fun _ p hp he => by
        have h1 := (o3.blk p he).1
        have h2 := (HO2.out.blk p hp).2
        omega⟩
      obtain ⟨A3, c3, rfl, -⟩ := o3.rd.h_parts
      have HA3 := Lib.hid HAL.out
      clear n3 o3
      generalize hL3 : (abv L).length = n3 at *
      replace hL3 := Lib.hid hL3
      go_wp2_with fail
      go_roundw
      case rel => exact ⟨abv L, m / 2, D ++ [x], rfl, HO3, HR3, Lib.hid (by rw [hL3.out, HA3.out]; exact HM2.out.1), HFN, Lib.hid (by rw [hL3.out, HA3.out]; have := HM2.out; have := HN.out; omega), Lib.hid (by rw [hL3.out, HA3.out, List.length_append, List.length_singleton]; have := HM2.out; have := HD.out; omega), HX3⟩
      case measure => exact HAT.out
theorem mway_no (v : Value) (l : Hs) (n : Int) (w : World) (hr : RdE elH w v l) (hn : l.length ≤ 1000) (hlt : n < 0 ∨ (l.length : Int) ≤ n) :
    Calls Tryd.prog 33 #[v, .int .i64 n] w fun e w' => e = .returned (.tuple #[.slice none 0 0, .int .i64 2]) ∧ w' = w := by
  obtain ⟨A, c, rfl, -⟩ := hr.h_parts
  clear hr
  rcases Int.lt_or_le n 0 with h | h
  · clear hlt
    go_enter Tryd.func33, Tryd.ntmps33
    go_wp2_with fail
    go_ret2
    exact ⟨rfl, rfl⟩
  · have h1 : (l.length : Int) ≤ n := by omega
    have h0 : ¬ n < 0 := by omega
    clear hlt
    go_enter Tryd.func33, Tryd.ntmps33
    go_wp2_with fail
    go_ret2
    exact ⟨rfl, rfl⟩
end Go.Proofs.YtjbeemoobmagnaaDoor
