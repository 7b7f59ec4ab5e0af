/- LAYER 13: the document's Open. -/
import Derived.Test.YtpkopigiijiiiaaDoorLm11
namespace Go.Proofs.YtpkopigiijiiiaaDoor
open Go Go.RowKit
set_option linter.unusedVariables false
set_option linter.unusedSimpArgs false
set_option linter.unusedVariables false
set_option linter.unusedSimpArgs false

theorem info_hash3z : (Value.agg (hcel (List.replicate 32 0))).cells.size = 32 := by kernel_rfl
theorem RdE.slE {w : World} {v : Value} {l : Hs} (h : RdE elH w v l) : ∃ A m c, v = .slice A m c := by obtain ⟨A, c, h, _⟩ := h.h_parts; exact ⟨A, _, c, h⟩
set_option maxHeartbeats 2000000 in
theorem ropen_no (v : Value) (g : Bs) (w : World) (hr : Rd w v g) (hg : g.length ≠ 2048) :
    Calls Tryd.prog 19 #[v] w fun e w' => e = .returned (.tuple #[.slice none 0 0, .int .i64 5]) ∧ Nx w w' := by
  have hgi : ((g.length : Int) != 2048) = true := by rw [bne_iff_ne]; omega
  obtain ⟨A, c, rfl, -, -, -⟩ := hr
  generalize g.length = n at *
  go_enter Tryd.func19, Tryd.ntmps19
  go_wp2
  exact bodyPost_ret (results_tmp2 Tryd.results19 _ _ _) rfl ⟨rfl, Nx.refl _⟩
theorem opL_take (g : Bs) (k : Nat) (hk : k < 32) : (opL g).take (k + 1) = (opL g).take k ++ [opS g k] := by
  rw [List.take_succ_eq_append_getElem (by rw [opL_length]; exact hk)]
  congr 2
  simp [opL]
set_option maxRecDepth 100000 in
set_option maxHeartbeats 8000000 in
theorem ropen_ok (v : Value) (g : Bs) (w : World) (hr : Rd w v g) (hg : g.length = 2048) :
    Calls Tryd.prog 19 #[v] w fun e w' => ∃ v', e = .returned (.tuple #[v', .int .i64 0]) ∧ RdE elH w' v' (opL g) ∧ Nx w w' := by
  have HG := Lib.hid hg
  have HL := Lib.hid (opL_length g)
  have HTK := Lib.hid (fun k hk => opL_take g k hk)
  have HOS := Lib.hid (fun k hk => opS_length g hg k hk)
  have ih3 := Lib.hid info_hash3
  obtain ⟨A, c, rfl, hc, hm, ha⟩ := hr
  obtain ⟨b, q, rfl, hb, hcell⟩ := ha (by omega)
  have HAT := Lib.hid ha
  rw [hg] at hc ⊢
  clear ha hcell
  go_enter Tryd.func19, Tryd.ntmps19
  go_wp2_with fail
  go_loopw [4, 5] (fun u i wr => ∃ k : Nat, k ≤ 32 ∧ i = .int .i64 (k : Int) ∧ OwnE elH w.heap.size wr u ((opL g).take k) ∧ Hid (Nx w wr)) (fun _ i _ => 32 - (intOf i).toNat)
  case atStart => exact ⟨0, Nat.zero_le _, rfl, by rw [List.take_zero]; exact OwnE.nil _ _, Lib.hid (Nx.refl w)⟩
  case round =>
    obtain ⟨k, hk, rfl, hown, HN⟩ := hrel
    by_cases hlt : k < 32
    · have hlti : (k : Int) < 32 := by omega
      have HR1 : Hid (∀ W, Nx w W → Rd W (.slice (some ⟨b, q + 64 * k, none⟩) 32 (c - 64 * k)) (opS g k)) := Lib.hid fun W h => by
        have := (Rd.cut HAT.out (c := c - 64 * k) (i := 64 * k) (m := 32) (by have := HG.out; omega) (by omega) (by omega)).nx h
        rwa [Option.map_some, addr_add] at this
      have HH := Lib.hid (rhash_any _ (opS g k) wr (HR1.out wr HN.out) (HOS.out k hlt))
      have hxl := HOS.out k hlt
      have HTN := Lib.hid (HTK.out k hlt)
      have htl : ((opL g).take k).length = k := by rw [List.length_take, HL.out]; omega
      generalize opS g k = X at *
      have HXL := Lib.hid hxl
      have MX := Lib.hid (fun w => run_mk1h X hxl w)
      go_wp2_with fail
      rw [show 64 * k + 32 - 64 * k = 32 by omega]
      refine HH.out.mono ?_
      rintro e w5 ⟨rfl, n5⟩
      have hown2 := hown.nx n5
      have hb5 : w.heap.size ≤ w5.heap.size := (HN.out.trans n5).size
      have A0 := (Nx.refl w5).alloc (.cells (hcel X) 23)
      have NA := Lib.hid ((HN.out.trans n5).trans A0)
      have ow := Lib.hid (hown2.nx A0)
      have RX := Lib.hid (RdE.one_h w5 X HXL.out)
      have hBa : w.heap.size ≤ (w5.alloc (.cells (hcel X) 23)).heap.size := NA.out.size
      obtain ⟨A4, m4, c4, rfl⟩ := hown.rd.slE
      clear n5 hown hown2 A0 hb5 HH HR1
      go_wp2_with (first | (refine wpList_mk rfl 32 1 #[(0, .tmp 21)] rfl #[(0, .agg (hcel X))] (by kernel_rfl) _ (MX.out _) ?_) | (at_builtin; refine wpList_appE2 elH rfl (.tmp 13) (.tmp 22) 32 rfl (.agg (hcel (List.replicate 32 0))) 32 Tryd.underlying32 info_hash3 info_hash3z w.heap.size _ (.slice (some ⟨w5.heap.size, 0, none⟩) 1 1) ((opL g).take k) [X] (hfs [X]) rfl rfl ow.out RX.out (allE_hfs (H32.one HXL.out) _ _) (by rw [htl]; simp only [List.length_singleton]; omega) (by rw [htl]; simp only [List.length_singleton, maxLen]; omega) hBa ?_))
      intro v7 w7 o7 b7 g7 e7
      have O7 := o7
      rw [← HTN.out] at O7
      have N7 := Lib.hid (NA.out.app b7)
      obtain ⟨A7, m7, c7, rfl⟩ := O7.rd.slE
      clear o7 b7 g7 e7 ow RX
      go_wp2_with fail
      go_roundw
      case rel => exact ⟨k + 1, by omega, by go_num, O7, N7⟩
      case measure => simp [intOf]; omega
    · obtain rfl : k = 32 := by omega
      rw [List.take_of_length_le (by rw [HL.out]; exact Nat.le_refl _)] at hown
      go_wp2_with fail
      exact bodyPost_ret (results_tmp2 Tryd.results19 _ _ _) rfl ⟨_, rfl, hown.rd, HN.out⟩
end Go.Proofs.YtpkopigiijiiiaaDoor
