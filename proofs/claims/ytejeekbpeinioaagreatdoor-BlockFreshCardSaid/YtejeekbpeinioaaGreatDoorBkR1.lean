/- LAYER 10, the document's: which may be, Put. -/
import Derived.Test.YtejeekbpeinioaaGreatDoorBk4
namespace Go.Proofs.YtejeekbpeinioaaGreatDoor
open Go Go.RowKit
set_option linter.unusedVariables false
set_option linter.unusedSimpArgs false
set_option linter.unusedVariables false
set_option linter.unusedSimpArgs false

theorem kc3 {b o j : Nat} {w wr : World} {A1 A2 : Option Addr} {n1 c1 n2 c2 a : Nat} (hN : Nx w wr) (hb : b < w.heap.size) (hcell : ∀ i u, (tcl (.slice A1 n1 c1) (.slice A2 n2 c2) a)[i]? = some u → w.cell? ⟨b, o + j * 3 + i, none⟩ = some u) :
    wr.cell? ⟨b, o + j * 3, none⟩ = some (.slice A1 n1 c1) ∧ wr.cell? ⟨b, o + j * 3 + 1, none⟩ = some (.slice A2 n2 c2) ∧ wr.cell? ⟨b, o + j * 3 + 2, none⟩ = some (.int .u32 (a : Int)) :=
  ⟨by rw [hN.cell (p := ⟨b, o + j * 3, none⟩) hb]; exact hcell 0 _ rfl, by rw [hN.cell (p := ⟨b, o + j * 3 + 1, none⟩) hb]; exact hcell 1 _ rfl, by rw [hN.cell (p := ⟨b, o + j * 3 + 2, none⟩) hb]; exact hcell 2 _ rfl⟩
set_option maxRecDepth 100000 in
set_option maxHeartbeats 8000000 in
theorem blist_any (tv : Value) (B : Blk) (w : World) (h : BlAt w tv B) :
    Calls Tryz.prog 34 #[.agg (blc B tv)] w fun e w' => e = .returned (.bool (lisT B.txs)) ∧ Nx w w' := by
  obtain ⟨A, c, rfl, hc1, hc2, hel⟩ := h.x.elem
  have R0 := Row.new w (blc B (.slice A B.txs.length c)) 29 _ rfl
  have HK67 := Lib.hid (blc_v B (.slice A B.txs.length c) h.h)
  have k67 := R0.cell HK67.out
  replace R0 := Lib.hid R0
  have N0 := Lib.hid ((Nx.refl w).alloc (.cells (blc B (.slice A B.txs.length c)) 29))
  clear h
  unfold maxLen at hc2
  by_cases hlen : ¬ (1 ≤ B.txs.length ∧ B.txs.length ≤ 16)
  · have hL := Lib.hid (lisT_len hlen)
    by_cases h0 : (B.txs.length : Int) < 1
    · clear hlen hel hc1 hc2
      go_enter Tryz.func34, Tryz.ntmps34
      go_wp2_with fail
      go_ret
      exact ⟨by rw [hL.out]; rfl, N0.out⟩
    · have h1 : (16 : Int) < (B.txs.length : Int) := by omega
      clear hlen hel hc1 hc2
      go_enter Tryz.func34, Tryz.ntmps34
      go_wp2_with fail
      go_ret
      exact ⟨by rw [hL.out]; rfl, N0.out⟩
  obtain ⟨hl1, hl2⟩ := Classical.not_not.1 hlen
  have HL1 := Lib.hid hl1
  have HL2 := Lib.hid hl2
  have HEL := Lib.hid hel
  have h0 : ¬ (B.txs.length : Int) < 1 := by omega
  have h1 : ¬ (16 : Int) < (B.txs.length : Int) := by omega
  clear hlen hel hc1 hc2 hl1 hl2
  go_enter Tryz.func34, Tryz.ntmps34
  go_wp2_with fail
  go_loopw [3] (fun iv wr => ∃ j : Nat, iv = .int .i64 (j : Int) ∧ j ≤ B.txs.length ∧ Hid (Nx w wr) ∧ Hid (Row wr w.heap.size (blc B (.slice A B.txs.length c)) 29) ∧ Hid (∀ i (h : i < B.txs.length), i < j → mayT B.txs[i] = true)) (fun iv _ => B.txs.length - (intOf iv).toNat)
  case atStart => exact ⟨0, rfl, Nat.zero_le _, N0, R0, Lib.hid (fun i _ h => absurd h (Nat.not_lt_zero _))⟩
  case round =>
    clear N0 R0 k67
    obtain ⟨j, rfl, hj, HN, HR, HM⟩ := hrel
    have k67 := HR.out.cell HK67.out
    by_cases hlt : j < B.txs.length
    · obtain ⟨b, o, cs, rfl, hb, ⟨iv, ov, rfl, hw⟩, hcell⟩ := HEL.out j hlt
      have HJ := Lib.hid hlt
      have hlt1 : (j : Int) < (B.txs.length : Int) := by omega
      have hj16 : (j : Int) < 16 := by have := HL2.out; omega
      have HTX := Lib.hid (hw wr (GrF.of_nx HN.out))
      have HBAD := Lib.hid (fun h => lisT_bad (l := B.txs) j hlt h)
      have HGE : Hid (mayT B.txs[j] = true → ∀ i (h : i < B.txs.length), i < j + 1 → mayT B.txs[i] = true) := Lib.hid (fun hs i h hi => by
        by_cases he : i = j
        · subst he; exact hs
        · exact HM.out i h (by omega))
      generalize hq : B.txs[j] = q at *
      clear hq
      obtain ⟨A1, c1, A2, c2, rfl, rfl⟩ := HTX.out.slv
      obtain ⟨k0, k1, k2⟩ := kc3 HN.out hb hcell
      have HMAY := Lib.hid (fun w h => rmay_any (.slice A1 q.ins.length c1) (.slice A2 q.outs.length c2) q w h)
      clear hlt hj hw hcell hb HM
      go_wp2_with fail
      refine (HMAY.out _ HTX.out).mono ?_
      rintro e w1 ⟨rfl, n1⟩
      have N1 := Lib.hid (HN.out.trans n1)
      have R1 := Lib.hid (HR.out.nx n1)
      clear n1 HN HR k67 k0 k1 k2 HMAY HTX
      cases hm : mayT q
      · have HL := Lib.hid (HBAD.out hm)
        clear hm HBAD HGE
        go_wp2_with fail
        go_ret
        exact ⟨by rw [HL.out]; rfl, N1.out⟩
      · have HM2 := Lib.hid (HGE.out hm)
        clear hm HBAD HGE
        go_wp2_with fail
        go_roundw
        case rel => exact ⟨j + 1, by go_num, HJ.out, N1, R1, HM2⟩
        case measure => have := HJ.out; simp [intOf]; omega
    · obtain rfl : j = B.txs.length := by omega
      have HT : Hid (lisT B.txs = true) := Lib.hid (lisT_of HL1.out HL2.out (fun t ht => by
        obtain ⟨i, hi, rfl⟩ := List.getElem_of_mem ht
        exact HM.out i hi hi))
      clear hlt hj HEL HM
      go_wp2_with fail
      go_ret
      exact ⟨by rw [HT.out]; rfl, HN.out⟩
end Go.Proofs.YtejeekbpeinioaaGreatDoor
