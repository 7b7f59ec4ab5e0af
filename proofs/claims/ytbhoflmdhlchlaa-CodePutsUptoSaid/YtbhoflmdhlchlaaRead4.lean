/- LAYER 11: Read of the program. -/
import Derived.Test.YtbhoflmdhlchlaaRead3
import Derived.Test.YtbhoflmdhlchlaaScopeF
namespace Go.Proofs.Ytbhoflmdhlchlaa
open Go Go.RowKit
set_option linter.unusedVariables false
set_option linter.unusedSimpArgs false
set_option linter.unusedVariables false
set_option linter.unusedSimpArgs false

theorem oneS_short {b : List UInt8} {i m : Nat} (hi : i < b.length) (hm : ((b.drop i).getD 0 0).toNat = m) (h : m < 128) : oneS (b.drop i) = if b.length - (i + 1) < m then ((0, []), 0, 4) else ((1, (b.drop (i + 1)).take m), 1 + m, 0) := by
  unfold oneS
  rw [hm, if_neg (by omega), if_neg (by omega), List.length_drop, List.drop_drop]
  by_cases g : b.length - (i + 1) < m
  · rw [if_pos g, if_pos (by omega)]
  · rw [if_neg g, if_neg (by omega)]
theorem oneS_long {b : List UInt8} {i : Nat} (hi : i < b.length) (hm : ((b.drop i).getD 0 0).toNat = 128) : oneS (b.drop i) = if lsE b (i + 1) ≠ 0 then ((0, []), 0, lsE b (i + 1)) else if b.length - (i + 3) < twoN b (i + 1) then ((0, []), 0, 4) else ((1, (b.drop (i + 3)).take (twoN b (i + 1))), 3 + twoN b (i + 1), 0) := by
  have e1 : (b.drop i).getD 1 0 = (b.drop (i + 1)).getD 0 0 := by simp [List.getD_eq_getElem?_getD]
  have e2 : (b.drop i).getD 2 0 = (b.drop (i + 1)).getD 1 0 := by simp [List.getD_eq_getElem?_getD, Nat.add_assoc]
  have e3 : ((b.drop i).getD 1 0).toNat + 256 * ((b.drop i).getD 2 0).toNat = twoN b (i + 1) := by rw [e1, e2]; rfl
  unfold oneS lsE
  rw [hm, e3, if_neg (by omega), if_pos rfl, List.length_drop, List.drop_drop]
  generalize twoN b (i + 1) = n
  by_cases g : b.length - (i + 1) < 2
  · rw [if_pos (show b.length - i < 3 by omega), if_pos g, if_pos (show (4 : Int) ≠ 0 by decide)]
  · rw [if_neg (show ¬ b.length - i < 3 by omega), if_neg g]
    by_cases g2 : n < 128 ∨ 3000 < n
    · rw [if_pos g2, if_pos g2, if_pos (show (5 : Int) ≠ 0 by decide)]
    · rw [if_neg g2, if_neg g2, if_neg (show ¬ (0 : Int) ≠ 0 by decide)]
      by_cases g3 : b.length - (i + 3) < n
      · rw [if_pos (show b.length - i - 3 < n by omega), if_pos g3]
      · rw [if_neg (show ¬ b.length - i - 3 < n by omega), if_neg g3]
theorem oneS_bare {b : List UInt8} {i m : Nat} (hm : ((b.drop i).getD 0 0).toNat = m) (h : 128 < m) : oneS (b.drop i) = if m ≤ 147 then ((UInt8.ofNat (m - 127), []), 1, 0) else ((0, []), 0, 5) := by
  have hlt := ((b.drop i).getD 0 0).toNat_lt
  unfold oneS
  rw [hm, if_pos h]
  by_cases g : m ≤ 147
  · rw [if_pos g, if_pos g]
    have : (b.drop i).getD 0 0 - 127 = UInt8.ofNat (m - 127) := by
      apply UInt8.toNat_inj.1
      rw [UInt8.toNat_sub, hm, UInt8.toNat_ofNat']
      show (256 - 127 + m) % 256 = (m - 127) % 256
      omega
    rw [this]
  · rw [if_neg g, if_neg g]
theorem cut_part {b : List UInt8} {i m : Nat} (hi : i ≤ b.length) : (b.length - i < m ∧ cutE b.length (i : Int) (m : Int) = 4 ∧ cutL b (i : Int) (m : Int) = []) ∨ (¬ b.length - i < m ∧ cutE b.length (i : Int) (m : Int) = 0 ∧ cutL b (i : Int) (m : Int) = (b.drop i).take m) := by
  rcases cutE_cases b.length (i : Int) (m : Int) with ⟨h1, h2⟩ | ⟨h1, h2⟩ | ⟨j, k, hj, hk, h1, h2⟩
  · omega
  · exact .inl ⟨by omega, h2, cutL_bad (by rw [h2]; decide)⟩
  · obtain rfl : j = i := by omega
    obtain rfl : k = m := by omega
    exact .inr ⟨by omega, h2, cutL_ok h1⟩
theorem Own.beside {B K : Nat} {w w' : World} {v : Value} {l : List UInt8} (h : Own B w v l) (hB : K < B) (x : w.grownBy w' (some K)) : Own B w' v l := by
  rcases h with h2 | ⟨g, full, rfl, hb, hg, rest⟩
  · exact .inl h2
  · exact .inr ⟨g, full, rfl, hb, by rw [x.block g (Array.getElem?_eq_some_iff.1 hg).1 (by intro e; injection e with e; omega)]; exact hg, rest⟩
theorem Row.below {B g : Nat} {w w' : World} {cs : Array Value} {t : TypeId} (h : Row w g cs t) (hb : Below B w w') (hg : g < B) : Row w' g cs t := (hb.block g hg).trans h

set_option maxRecDepth 100000 in
set_option maxHeartbeats 8000000 in
theorem cread_any (v : Value) (b : List UInt8) (w : World) (h : Rd w v b) (hn : b.length ≤ 140737488355328) :
    Calls Try.prog 22 #[v] w fun e w' => ∃ r, e = .returned (.tuple #[r, .int .i64 (readS b).2]) ∧ OwnE stepEl w.heap.size w' r (readS b).1 ∧ Nx w w' := by
  have HR := Lib.hid h
  obtain ⟨A, c, rfl, hc, hm, ha⟩ := h
  have HA := Lib.hid ha
  have HPA := Lib.hid (fun (i m : Nat) W (x : Nx w W) => part_any (.slice A b.length c) b (i : Int) (m : Int) W (HR.out.nx x) hn)
  have HLS := Lib.hid (fun (i : Nat) (hi : i ≤ b.length) W (x : Nx w W) => longSize_any (.slice A b.length c) b i W (HR.out.nx x) hi)
  have HN := Lib.hid hn
  have hnb : (b.length : Int) ≤ 140737488355328 := by omega
  have Z0 := Row.new w #[.int .u8 0, .slice none 0 0] 55 _ rfl
  have NZ := Lib.hid ((Nx.refl w).alloc (.cells #[.int .u8 0, .slice none 0 0] 55))
  clear hn hc hm ha
  go_enter Try.func22, Try.ntmps22
  go_wp2_with fail
  have HZ := Lib.hid Z0
  clear Z0
  generalize w.alloc (.cells #[.int .u8 0, .slice none 0 0] 55) = W0 at *
  go_loopw [4, 6, 7, 8] (fun s i sz er wr => ∃ (l : List Step) (j : Nat) (x : Int) (A9 : Option Addr) (n9 c9 : Nat), i = .int .i64 (j : Int) ∧ j ≤ b.length ∧ Row wr w.heap.size #[.int .u8 x, .slice A9 n9 c9] 55 ∧ OwnE (stepElK w.heap.size) (w.heap.size + 1) wr s l ∧ l.length ≤ 200 ∧ Hid (rdG (200 - l.length) (b.drop j) l = readS b) ∧ Nx w wr) (fun _ i _ _ _ => b.length - (intOf i).toNat)
  case atStart => exact ⟨[], 0, 0, none, 0, 0, rfl, by omega, HZ.out, OwnE.nil _ _, by simp, show _ = _ by rw [List.drop_zero]; rfl, NZ.out⟩
  case round =>
    obtain ⟨l, j, x9, A9, n9, c9, rfl, hj, hrow, hown, hl, HG, hx⟩ := hrel
    have HOW := Lib.hid hown
    have HX := Lib.hid hx
    have HLL := Lib.hid hl
    have hsz : w.heap.size ≤ w.heap.size := Nat.le_refl _
    have HKW := Lib.hid hrow.lt
    obtain ⟨A2, c2, fs, rfl, -, -, -, -⟩ := hown.plain.rd.parts
    by_cases hlt : j < b.length
    · have hlt' : (j : Int) < (b.length : Int) := by omega
      have hb0 : b.drop j ≠ [] := by intro e; have := congrArg List.length e; rw [List.length_drop] at this; simp at this; omega
      have hj0 : (0 : Int) ≤ (j : Int) := by omega
      by_cases h2 : l.length = 200
      · have HV : Hid (readS b = ([], 3)) := Lib.hid (by
          rw [← HG.out, h2]
          show (if b.drop j = [] then _ else _) = _
          rw [if_neg hb0])
        have he : ((l.length : Int) == 200) = true := by rw [h2]; rfl
        clear hb0 hown hl hlt hrow hx h2
        go_wp2_with fail
        refine wp_scope_fwd 0 rfl ?_
        go_hide hQ
        go_wp2_with fail
        rw [← hQ, jump_ret]
        go_wp2_with fail
        go_ret2
        exact ⟨_, by rw [HV.out]; rfl, by rw [HV.out]; exact OwnE.nil _ _, HX.out⟩
      · have he : ((l.length : Int) == 200) = false := by rw [beq_eq_false_iff_ne]; omega
        have HG1 : Hid (readS b = if (oneS (b.drop j)).2.2 = 0 then rdG (199 - l.length) ((b.drop j).drop (oneS (b.drop j)).2.1) (l ++ [(oneS (b.drop j)).1]) else ([], (oneS (b.drop j)).2.2)) := Lib.hid (by
          rw [← HG.out, show 200 - l.length = (199 - l.length) + 1 by omega, rdG_step hb0])
        have HL2 : Hid (l.length + 1 ≤ 200) := Lib.hid (by omega)
        have HJ := Lib.hid hlt
        obtain ⟨bk, o, rfl, hbk, hcell⟩ := HA.out (by omega)
        have k0 := (hx.cell (p := ⟨bk, o + j, none⟩) hbk).trans (hcell j hlt)
        have hg0 : b[j]'hlt = (b.drop j).getD 0 0 := by rw [List.getD_eq_getElem?_getD, List.getElem?_drop, Nat.add_zero, List.getElem?_eq_getElem hlt]; rfl
        rw [hg0] at k0
        unfold bv at k0
        have hw1 : wrap64 ((j : Int) + 1) = (j : Int) + 1 := by unfold wrap64; omega
        have hc256 := ((b.drop j).getD 0 0).toNat_lt
        have HSH := Lib.hid (fun m hm h => oneS_short (m := m) hlt hm h)
        have HLO := Lib.hid (fun h => oneS_long hlt h)
        have HBA := Lib.hid (fun m hm h => oneS_bare (b := b) (i := j) (m := m) hm h)
        clear hb0 hown hl hx h2 HG hg0 hcell hj hlt
        generalize (b.drop j).getD 0 0 = c0 at *
        have HKD := Lib.hid (kindOf_any c0 wr)
        unfold kindN at HKD
        by_cases g1 : c0.toNat < 128
        · have HONE := Lib.hid (HSH.out c0.toNat rfl g1)
          rw [if_pos g1] at HKD
          have HM := Lib.hid g1
          clear HSH HLO HBA g1 hc256
          generalize c0.toNat = n at *
          have HAB : Hid (j + 1 ≤ b.length) := Lib.hid HJ.out
          have hw8 : IntKind.i64.wrap (n : Int) = (n : Int) := IntWalk.i64_in _ (by have := HM.out; omega)
          go_wp2_with fail
          refine wp_scope_fwd 0 rfl ?_
          go_hide hQ
          go_wp2_with fail
          refine HKD.out.mono ?_
          rintro e w' ⟨rfl, rfl⟩
          have R1 := hrow.setRow #[.int .u8 1, .slice none 0 0]
          have HSZ0 := Lib.hid (stepsz (.int .u8 1) (.slice none 0 0))
          have N1 := Lib.hid (HX.out.setRow (g := w.heap.size) #[.int .u8 1, .slice none 0 0] hsz)
          have HOW1 := Lib.hid (HOW.out.beside (Nat.lt_succ_self _) (grown_setRow wr w.heap.size #[.int .u8 1, .slice none 0 0]))
          have HWSZ := Lib.hid R1.lt
          have HPP := Lib.hid (part_any (.slice (some ⟨bk, o, none⟩) b.length c) b ((j : Int) + 1) (n : Int) _ (HR.out.nx N1.out) HN.out)
          have HPC := cut_part (b := b) (i := j + 1) (m := n) HAB.out
          rw [show ((j + 1 : Nat) : Int) = (j : Int) + 1 by omega] at HPC
          go_wp2_with (first | (refine wpList_store_row rfl 55 (.tmp 5) (.tmp 48) rfl w.heap.size #[.int .u8 1, .slice none 0 0] rfl rfl 55 #[.int .u8 x9, .slice A9 n9 c9] hrow HSZ0.out rfl (stepone _ _ _ _) ?_))
          clear hrow
          generalize wr.setRow w.heap.size #[.int .u8 1, .slice none 0 0] = W1 at *
          refine HPP.out.mono ?_
          rintro e w2 ⟨vp, rfl, ovp, n2⟩
          rcases HPC with ⟨c1, c2', c3'⟩ | ⟨c1, c2', c3'⟩
          · rw [if_pos c1] at HONE
            rw [HONE.out] at HG1
            rw [if_neg (show ¬ (4 : Int) = 0 by decide)] at HG1
            rw [c2'] at *
            obtain ⟨A3, q3, rfl, -, -, -⟩ := ovp.rd
            have R2 := R1.nx n2
            have hc1 := R2.cell (i := 1) (v := .slice none 0 0) rfl
            have hf1 := R2.frozen 1
            have N2 := Lib.hid ((N1.out.trans n2).setAt (i := 1) (.slice A3 (cutL b ((j : Int) + 1) (n : Int)).length q3) hsz)
            clear R1 R2 n2 ovp c1 c2' c3'
            go_wp2_with fail
            rw [← hQ, jump_ret]
            go_wp2_with fail
            go_ret2
            exact ⟨_, by rw [HG1.out]; rfl, by rw [HG1.out]; exact OwnE.nil _ _, N2.out⟩
          · rw [if_neg c1] at HONE
            rw [HONE.out] at HG1
            dsimp only at HG1
            rw [if_pos rfl, List.drop_drop, show j + (1 + n) = j + 1 + n by omega] at HG1
            rw [c3'] at ovp
            rw [c2'] at *
            have HEND : Hid (j + 1 + n ≤ b.length) := Lib.hid (by have := HAB.out; omega)
            generalize (b.drop (j + 1)).take n = p at *
            have HOV := Lib.hid ovp
            obtain ⟨A3, c3, rfl, -, -, -⟩ := ovp.rd
            have HSZ := Lib.hid (stepsz (.int .u8 1) (.slice A3 p.length c3))
            have R2 := R1.nx n2
            have hc1 := R2.cell (i := 1) (v := .slice none 0 0) rfl
            have hf1 := R2.frozen 1
            have R3 := R2.set 1 (.slice A3 p.length c3)
            have eR3 : (#[.int .u8 1, .slice none 0 0] : Array Value).setIfInBounds 1 (.slice A3 p.length c3) = #[.int .u8 1, .slice A3 p.length c3] := rfl
            rw [eR3] at R3
            have N2 := Lib.hid ((N1.out.trans n2).setAt (i := 1) (.slice A3 p.length c3) hsz)
            have HOW3 := Lib.hid ((HOW1.out.nx n2).beside (Nat.lt_succ_self _) (grown_setCell w2 w.heap.size 1 (.slice A3 p.length c3)))
            have HOU := Lib.hid (HOV.out.beside (K := w.heap.size) HWSZ.out (grown_setCell w2 w.heap.size 1 (.slice A3 p.length c3)))
            have HAE : Hid (AllE (stepElK w.heap.size) (Value.slice A2 l.length c2).ownBlock ((w2.setCell ⟨w.heap.size, 1, none⟩ (.slice A3 p.length c3)).alloc (.cells #[.int .u8 1, .slice A3 p.length c3] 55)) [.int .u8 1, .slice A3 p.length c3] [(1, p)]) := Lib.hid (stepK_apart (K := w.heap.size) (x := 1) HOW1.out (HOU.out.nx ((Nx.refl _).alloc (.cells #[.int .u8 1, .slice A3 p.length c3] 55))) HWSZ.out)
            have hw7 : wrap64 ((j : Int) + 1 + (n : Int)) = (j : Int) + 1 + (n : Int) := by have := HEND.out; unfold wrap64; omega
            clear R1 R2 eR3 n2 ovp c1 c2' c3' HPP
            go_wp2_with fail
            clear hc1 hf1
            generalize w2.setCell ⟨w.heap.size, 1, none⟩ (.slice A3 p.length c3) = W3 at *
            have R1 := R3
            have N1 := N2
            have HOW1 := HOW3
            clear R3 N2 HOW3
            refine wp_label ?_
            have HRF := RdF.lit W3 [.int .u8 1, .slice A3 p.length c3] 2 55 rfl (step_one _ _ _ _)
            replace HRF := Lib.hid HRF
            have HOW2 := Lib.hid (HOW1.out.nx ((Nx.refl _).alloc (.cells #[.int .u8 1, .slice A3 p.length c3] 55)))
            have N2 := Lib.hid (N1.out.alloc (.cells #[.int .u8 1, .slice A3 p.length c3] 55))
            have R2 := Lib.hid (R1.alloc (.cells #[.int .u8 1, .slice A3 p.length c3] 55))
            have HR1L := Lib.hid R1.lt
            go_wp2_with (first | (refine wpList_load_row rfl 55 (.tmp 5) rfl w.heap.size rfl 55 #[.int .u8 1, .slice A3 p.length c3] (0, 0) _ R1 Try.underlying55 rfl HSZ.out ?_) | (at_builtin; refine wpList_appE (stepElK w.heap.size) rfl (.tmp 63) (.tmp 65) 22 rfl (.agg #[.int .u8 0, .slice none 0 0]) 32 Try.underlying22 info_stepb rfl (w.heap.size + 1) (.slice A2 l.length c2) (.slice (some ⟨W3.heap.size, 0, none⟩) 1 1) l [(1, p)] [.int .u8 1, .slice A3 p.length c3] rfl rfl HOW2.out HRF.out HAE.out ?e1s ?e2s ?e3s ?_))
            case e1s => have := HLL.out; simp; omega
            case e2s => have := HLL.out; simp [maxLen]; omega
            case e3s => have := HR1L.out; first | omega | (simp; omega)
            intro v' w' o' b' _
            have HO := Lib.hid o'
            have NB := Lib.hid (N2.out.app (b'.mono (Nat.le_succ _)))
            have RB := Lib.hid (R2.out.below b' (Nat.lt_succ_self _))
            clear R1 o' b'
            go_wp2_with fail
            rw [← hQ, jump_normal]
            go_wp2_with fail
            go_roundw
            case rel => exact ⟨l ++ [(1, p)], j + 1 + n, _, _, _, _, by go_num, by have := HJ.out; have := HEND.out; omega, RB.out, HO.out, by rw [List.length_append]; exact HL2.out, show _ = _ by rw [HG1.out, List.length_append, List.length_singleton, show 200 - (l.length + 1) = 199 - l.length by omega], NB.out⟩
            case measure => have := HJ.out; have := HEND.out; simp [intOf]; omega
        · by_cases g2 : c0.toNat = 128
          · have HONE := Lib.hid (HLO.out g2)
            rw [if_neg g1, if_pos g2] at HKD
            rw [g2] at k0 HKD
            clear HSH HLO HBA g1 hc256 g2
            have HLSS := Lib.hid (longSize_any (.slice (some ⟨bk, o, none⟩) b.length c) b (j + 1) wr (HR.out.nx HX.out) HJ.out)
            rw [show ((j + 1 : Nat) : Int) = (j : Int) + 1 by omega] at HLSS
            have HLE : (b.length - (j + 1) < 2 ∧ lsE b (j + 1) = 4) ∨ ¬ b.length - (j + 1) < 2 := by
              unfold lsE
              by_cases g : b.length - (j + 1) < 2
              · exact .inl ⟨g, by rw [if_pos g]⟩
              · exact .inr g
            have HTW : twoN b (j + 1) < 65792 := by
              have h1 := ((b.drop (j + 1)).getD 0 0).toNat_lt
              have h2 := ((b.drop (j + 1)).getD 1 0).toNat_lt
              unfold twoN
              omega
            have HLN : lsN b (j + 1) = if lsE b (j + 1) = 0 then twoN b (j + 1) else 0 := rfl
            generalize twoN b (j + 1) = n at *
            generalize lsE b (j + 1) = E at *
            generalize lsN b (j + 1) = N9 at *
            by_cases hE : E = 0
            · subst hE
              rw [if_neg (by simp)] at HONE
              rw [if_pos rfl] at HLN
              obtain rfl : n = N9 := HLN.symm
              have HAB : Hid (j + 3 ≤ b.length) := Lib.hid (by
                rcases HLE with ⟨_, h⟩ | h
                · cases h
                · have := HJ.out; omega)
              have hw9 : wrap64 ((j : Int) + 1 + 2) = (j : Int) + 1 + 2 := by unfold wrap64; omega
              clear HLE HTW
              go_wp2_with fail
              refine wp_scope_fwd 0 rfl ?_
              go_hide hQ
              go_wp2_with fail
              refine HKD.out.mono ?_
              rintro e w' ⟨rfl, rfl⟩
              go_wp2_with fail
              refine HLSS.out.mono ?_
              rintro e w' ⟨rfl, rfl⟩
              have R1 := hrow.setRow #[.int .u8 1, .slice none 0 0]
              have HSZ0 := Lib.hid (stepsz (.int .u8 1) (.slice none 0 0))
              have N1 := Lib.hid (HX.out.setRow (g := w.heap.size) #[.int .u8 1, .slice none 0 0] hsz)
              have HOW1 := Lib.hid (HOW.out.beside (Nat.lt_succ_self _) (grown_setRow wr w.heap.size #[.int .u8 1, .slice none 0 0]))
              have HWSZ := Lib.hid R1.lt
              have HPP := Lib.hid (part_any (.slice (some ⟨bk, o, none⟩) b.length c) b ((j : Int) + 1 + 2) (n : Int) _ (HR.out.nx N1.out) HN.out)
              have HPC := cut_part (b := b) (i := j + 3) (m := n) HAB.out
              rw [show ((j + 3 : Nat) : Int) = (j : Int) + 1 + 2 by omega] at HPC
              go_wp2_with (first | (refine wpList_store_row rfl 55 (.tmp 5) (.tmp 48) rfl w.heap.size #[.int .u8 1, .slice none 0 0] rfl rfl 55 #[.int .u8 x9, .slice A9 n9 c9] hrow HSZ0.out rfl (stepone _ _ _ _) ?_))
              clear hrow
              generalize wr.setRow w.heap.size #[.int .u8 1, .slice none 0 0] = W1 at *
              refine HPP.out.mono ?_
              rintro e w2 ⟨vp, rfl, ovp, n2⟩
              rcases HPC with ⟨c1, c2', c3'⟩ | ⟨c1, c2', c3'⟩
              · rw [if_pos c1] at HONE
                rw [HONE.out] at HG1
                rw [if_neg (show ¬ (4 : Int) = 0 by decide)] at HG1
                rw [c2'] at *
                obtain ⟨A3, q3, rfl, -, -, -⟩ := ovp.rd
                have R2 := R1.nx n2
                have hc1 := R2.cell (i := 1) (v := .slice none 0 0) rfl
                have hf1 := R2.frozen 1
                have N2 := Lib.hid ((N1.out.trans n2).setAt (i := 1) (.slice A3 (cutL b ((j : Int) + 1 + 2) (n : Int)).length q3) hsz)
                clear R1 R2 n2 ovp c1 c2' c3'
                go_wp2_with fail
                rw [← hQ, jump_ret]
                go_wp2_with fail
                go_ret2
                exact ⟨_, by rw [HG1.out]; rfl, by rw [HG1.out]; exact OwnE.nil _ _, N2.out⟩
              · rw [if_neg c1] at HONE
                rw [HONE.out] at HG1
                dsimp only at HG1
                rw [if_pos rfl, List.drop_drop, show j + (3 + n) = j + 3 + n by omega] at HG1
                rw [c3'] at ovp
                rw [c2'] at *
                have HEND : Hid (j + 3 + n ≤ b.length) := Lib.hid (by have := HAB.out; omega)
                generalize (b.drop (j + 3)).take n = p at *
                have HOV := Lib.hid ovp
                obtain ⟨A3, c3, rfl, -, -, -⟩ := ovp.rd
                have HSZ := Lib.hid (stepsz (.int .u8 1) (.slice A3 p.length c3))
                have R2 := R1.nx n2
                have hc1 := R2.cell (i := 1) (v := .slice none 0 0) rfl
                have hf1 := R2.frozen 1
                have R3 := R2.set 1 (.slice A3 p.length c3)
                have eR3 : (#[.int .u8 1, .slice none 0 0] : Array Value).setIfInBounds 1 (.slice A3 p.length c3) = #[.int .u8 1, .slice A3 p.length c3] := rfl
                rw [eR3] at R3
                have N2 := Lib.hid ((N1.out.trans n2).setAt (i := 1) (.slice A3 p.length c3) hsz)
                have HOW3 := Lib.hid ((HOW1.out.nx n2).beside (Nat.lt_succ_self _) (grown_setCell w2 w.heap.size 1 (.slice A3 p.length c3)))
                have HOU := Lib.hid (HOV.out.beside (K := w.heap.size) HWSZ.out (grown_setCell w2 w.heap.size 1 (.slice A3 p.length c3)))
                have HAE : Hid (AllE (stepElK w.heap.size) (Value.slice A2 l.length c2).ownBlock ((w2.setCell ⟨w.heap.size, 1, none⟩ (.slice A3 p.length c3)).alloc (.cells #[.int .u8 1, .slice A3 p.length c3] 55)) [.int .u8 1, .slice A3 p.length c3] [(1, p)]) := Lib.hid (stepK_apart (K := w.heap.size) (x := 1) HOW1.out (HOU.out.nx ((Nx.refl _).alloc (.cells #[.int .u8 1, .slice A3 p.length c3] 55))) HWSZ.out)
                have hw7 : wrap64 ((j : Int) + 1 + 2 + (n : Int)) = (j : Int) + 1 + 2 + (n : Int) := by have := HEND.out; unfold wrap64; omega
                clear R1 R2 eR3 n2 ovp c1 c2' c3' HPP
                go_wp2_with fail
                clear hc1 hf1
                generalize w2.setCell ⟨w.heap.size, 1, none⟩ (.slice A3 p.length c3) = W3 at *
                have R1 := R3
                have N1 := N2
                have HOW1 := HOW3
                clear R3 N2 HOW3
                refine wp_label ?_
                have HRF := RdF.lit W3 [.int .u8 1, .slice A3 p.length c3] 2 55 rfl (step_one _ _ _ _)
                replace HRF := Lib.hid HRF
                have HOW2 := Lib.hid (HOW1.out.nx ((Nx.refl _).alloc (.cells #[.int .u8 1, .slice A3 p.length c3] 55)))
                have N2 := Lib.hid (N1.out.alloc (.cells #[.int .u8 1, .slice A3 p.length c3] 55))
                have R2 := Lib.hid (R1.alloc (.cells #[.int .u8 1, .slice A3 p.length c3] 55))
                have HR1L := Lib.hid R1.lt
                go_wp2_with (first | (refine wpList_load_row rfl 55 (.tmp 5) rfl w.heap.size rfl 55 #[.int .u8 1, .slice A3 p.length c3] (0, 0) _ R1 Try.underlying55 rfl HSZ.out ?_) | (at_builtin; refine wpList_appE (stepElK w.heap.size) rfl (.tmp 63) (.tmp 65) 22 rfl (.agg #[.int .u8 0, .slice none 0 0]) 32 Try.underlying22 info_stepb rfl (w.heap.size + 1) (.slice A2 l.length c2) (.slice (some ⟨W3.heap.size, 0, none⟩) 1 1) l [(1, p)] [.int .u8 1, .slice A3 p.length c3] rfl rfl HOW2.out HRF.out HAE.out ?e1l ?e2l ?e3l ?_))
                case e1l => have := HLL.out; simp; omega
                case e2l => have := HLL.out; simp [maxLen]; omega
                case e3l => have := HR1L.out; first | omega | (simp; omega)
                intro v' w' o' b' _
                have HO := Lib.hid o'
                have NB := Lib.hid (N2.out.app (b'.mono (Nat.le_succ _)))
                have RB := Lib.hid (R2.out.below b' (Nat.lt_succ_self _))
                clear R1 o' b'
                go_wp2_with fail
                rw [← hQ, jump_normal]
                go_wp2_with fail
                go_roundw
                case rel => exact ⟨l ++ [(1, p)], j + 3 + n, _, _, _, _, by go_num, by have := HJ.out; have := HEND.out; omega, RB.out, HO.out, by rw [List.length_append]; exact HL2.out, show _ = _ by rw [HG1.out, List.length_append, List.length_singleton, show 200 - (l.length + 1) = 199 - l.length by omega], NB.out⟩
                case measure => have := HJ.out; have := HEND.out; simp [intOf]; omega
            · rw [if_pos hE] at HONE
              rw [HONE.out] at HG1
              dsimp only at HG1
              rw [if_neg hE] at HG1
              have dE : (E != 0) = true := by rw [bne_iff_ne]; exact hE
              clear hE HLE HTW HLN
              go_wp2_with fail
              refine wp_scope_fwd 0 rfl ?_
              go_hide hQ
              go_wp2_with fail
              refine HKD.out.mono ?_
              rintro e w' ⟨rfl, rfl⟩
              go_wp2_with fail
              refine HLSS.out.mono ?_
              rintro e w' ⟨rfl, rfl⟩
              go_wp2_with fail
              rw [← hQ, jump_ret]
              go_wp2_with fail
              go_ret2
              exact ⟨_, by rw [HG1.out]; rfl, by rw [HG1.out]; exact OwnE.nil _ _, HX.out⟩
          · by_cases g3 : c0.toNat ≤ 147
            · have HONE := Lib.hid (HBA.out c0.toNat rfl (by omega))
              rw [if_pos g3] at HONE
              rw [if_neg g1, if_neg g2, if_pos g3] at HKD
              have hw2 : ((c0.toNat : Int) - 128) % 256 = (c0.toNat : Int) - 128 := by omega
              have hw3 : ((c0.toNat : Int) - 128 + 1) % 256 = ((UInt8.ofNat (c0.toNat - 127)).toNat : Int) := by rw [UInt8.toNat_ofNat']; omega
              clear HSH HLO HBA g1 hc256 g2 g3
              generalize UInt8.ofNat (c0.toNat - 127) = op at *
              have HEND : Hid (j + 1 ≤ b.length) := Lib.hid HJ.out
              have R1 := hrow.setRow #[.int .u8 (op.toNat : Int), .slice none 0 0]
              rw [HONE.out] at HG1
              dsimp only at HG1
              rw [if_pos rfl, List.drop_drop] at HG1
              have HSZ := Lib.hid (stepsz (.int .u8 (op.toNat : Int)) (.slice none 0 0))
              have N1 := Lib.hid (HX.out.setRow (g := w.heap.size) #[.int .u8 (op.toNat : Int), .slice none 0 0] hsz)
              have HOW1 := Lib.hid (HOW.out.beside (Nat.lt_succ_self _) (grown_setRow wr w.heap.size #[.int .u8 (op.toNat : Int), .slice none 0 0]))
              go_wp2_with fail
              refine wp_scope_fwd 0 rfl ?_
              go_hide hQ
              go_wp2_with fail
              refine HKD.out.mono ?_
              rintro e w' ⟨rfl, rfl⟩
              go_wp2_with (first | (refine wpList_store_row rfl 55 (.tmp 5) (.tmp 30) rfl w.heap.size #[.int .u8 (op.toNat : Int), .slice none 0 0] rfl rfl 55 #[.int .u8 x9, .slice A9 n9 c9] hrow HSZ.out rfl (stepone _ _ _ _) ?_))
              clear hrow
              generalize wr.setRow w.heap.size #[.int .u8 (op.toNat : Int), .slice none 0 0] = W1 at *
              refine wp_goto ?_
              go_wp2_with fail
              rw [← hQ]
              refine jump_goto ?_
              have HOU := Lib.hid (Own.nil wr.heap.size W1)
              have HAE := Lib.hid (stepK_apart (K := w.heap.size) (x := op) HOW.out (HOU.out.nx ((Nx.refl _).alloc (.cells #[.int .u8 (op.toNat : Int), .slice none 0 0] 55))) HKW.out)
              have HRF := RdF.lit W1 [.int .u8 (op.toNat : Int), .slice none 0 0] 2 55 rfl (step_one _ _ _ _)
              replace HRF := Lib.hid HRF
              have HOW2 := Lib.hid (HOW1.out.nx ((Nx.refl _).alloc (.cells #[.int .u8 (op.toNat : Int), .slice none 0 0] 55)))
              have N2 := Lib.hid (N1.out.alloc (.cells #[.int .u8 (op.toNat : Int), .slice none 0 0] 55))
              have R2 := Lib.hid (R1.alloc (.cells #[.int .u8 (op.toNat : Int), .slice none 0 0] 55))
              have HR1L := Lib.hid R1.lt
              go_wp2_with (first | (refine wpList_load_row rfl 55 (.tmp 5) rfl w.heap.size rfl 55 #[.int .u8 (op.toNat : Int), .slice none 0 0] (0, 0) _ R1 Try.underlying55 rfl HSZ.out ?_) | (at_builtin; refine wpList_appE (stepElK w.heap.size) rfl (.tmp 63) (.tmp 65) 22 rfl (.agg #[.int .u8 0, .slice none 0 0]) 32 Try.underlying22 info_stepb rfl (w.heap.size + 1) (.slice A2 l.length c2) (.slice (some ⟨W1.heap.size, 0, none⟩) 1 1) l [(op, [])] [.int .u8 (op.toNat : Int), .slice none 0 0] rfl rfl HOW2.out HRF.out HAE.out ?e11 ?e21 ?e31 ?_))
              case e11 => have := HLL.out; simp; omega
              case e21 => have := HLL.out; simp [maxLen]; omega
              case e31 => have := HR1L.out; first | omega | (simp; omega)
              intro v' w' o' b' _
              have HO := Lib.hid o'
              have NB := Lib.hid (N2.out.app (b'.mono (Nat.le_succ _)))
              have RB := Lib.hid (R2.out.below b' (Nat.lt_succ_self _))
              clear R1 o' b'
              go_wp2_with fail
              rw [Exit.noGoto_normal]
              go_wp2_with fail
              go_roundw
              case rel => exact ⟨l ++ [(op, [])], j + 1, _, _, _, _, by go_num, by have := HJ.out; have := HEND.out; omega, RB.out, HO.out, by rw [List.length_append]; exact HL2.out, show _ = _ by rw [HG1.out, List.length_append, List.length_singleton, show 200 - (l.length + 1) = 199 - l.length by omega], NB.out⟩
              case measure => have := HJ.out; have := HEND.out; simp [intOf]; omega
            · have HONE := Lib.hid (HBA.out c0.toNat rfl (by omega))
              rw [if_neg g3] at HONE
              rw [if_neg g1, if_neg g2, if_neg g3] at HKD
              rw [HONE.out] at HG1
              rw [if_neg (by decide)] at HG1
              clear HSH HLO HBA g1 hc256 g2 g3
              go_wp2_with fail
              refine wp_scope_fwd 0 rfl ?_
              go_hide hQ
              go_wp2_with fail
              refine HKD.out.mono ?_
              rintro e w' ⟨rfl, rfl⟩
              go_wp2_with fail
              rw [← hQ, jump_ret]
              go_wp2_with fail
              go_ret2
              exact ⟨_, by rw [HG1.out]; rfl, by rw [HG1.out]; exact OwnE.nil _ _, HX.out⟩
    · have hj' : j = b.length := by omega
      have HV : Hid (readS b = (l, 0)) := Lib.hid (by rw [← HG.out, hj', List.drop_length, rdG_nil])
      have h0 : ¬ (j : Int) < (b.length : Int) := by omega
      clear hown hl hlt hj' hj hrow hx
      go_wp2_with fail
      go_ret2
      exact ⟨_, by rw [HV.out]; rfl, by rw [HV.out]; exact HOW.out.plain.mono (Nat.le_succ _), HX.out⟩
end Go.Proofs.Ytbhoflmdhlchlaa
