/- LAYER 10: great. -/
import Derived.Test.YtpijehaciomkhaaDoorBkR1
import Derived.Test.YtpijehaciomkhaaDoorTx19
namespace Go.Proofs.YtpijehaciomkhaaDoor
open Go Go.RowKit
set_option linter.unusedVariables false
set_option linter.unusedSimpArgs false
set_option linter.unusedVariables false
set_option linter.unusedSimpArgs false

set_option maxRecDepth 100000 in
set_option maxHeartbeats 8000000 in
theorem bgreat_any (tv : Value) (B : Blk) (w : World) (h : BlAt w tv B) :
    Calls Tryd.prog 4 #[.agg (blc B tv)] w (SomeB w) := by
  obtain ⟨A, c, rfl, hc1, hc2, hel⟩ := h.x.elem
  have R0 := Row.new w (blc B (.slice A B.txs.length c)) 29 _ rfl
  have HK67 := Lib.hid (blc_v B (.slice A B.txs.length c) h.h)
  have k67 := R0.cell HK67.out
  replace R0 := Lib.hid R0
  have N0 := Lib.hid ((Nx.refl w).alloc (.cells (blc B (.slice A B.txs.length c)) 29))
  clear h
  unfold maxLen at hc2
  have HL1 := Lib.hid (show B.txs.length ≤ 9223372036854775807 by omega)
  have HEL := Lib.hid hel
  clear hel hc1 hc2
  go_enter Tryd.func4, Tryd.ntmps4
  go_wp2_with fail
  go_loopw [3, 4] (fun nv iv wr => ∃ (n : Int) (j : Nat), nv = .int .i64 n ∧ iv = .int .i64 (j : Int) ∧ j ≤ B.txs.length ∧ Hid (Nx w wr) ∧ Hid (Row wr w.heap.size (blc B (.slice A B.txs.length c)) 29)) (fun _ iv _ => B.txs.length - (intOf iv).toNat)
  case atStart => exact ⟨_, 0, rfl, rfl, Nat.zero_le _, N0, R0⟩
  case round =>
    clear N0 R0 k67
    obtain ⟨n, j, rfl, rfl, hj, HN, HR⟩ := hrel
    have k67 := HR.out.cell HK67.out
    by_cases hlt : j < B.txs.length
    · obtain ⟨b, o, cs, rfl, hb, ⟨iv, ov, rfl, hw⟩, hcell⟩ := HEL.out j hlt
      have HJ := Lib.hid hlt
      have hlt1 : (j : Int) < (B.txs.length : Int) := by omega
      have hj16 : (j : Int) < 9223372036854775807 := by have := HL1.out; omega
      have HTX := Lib.hid (hw wr (GrF.of_nx HN.out))
      generalize hq : B.txs[j] = q at *
      clear hq
      obtain ⟨A1, c1, A2, c2, rfl, rfl⟩ := HTX.out.slv
      obtain ⟨k0, k1, k2⟩ := kc3 HN.out hb hcell
      have S1 := Lib.hid ((Nx.refl wr).alloc (.cells #[.slice A1 q.ins.length c1, .slice A2 q.outs.length c2, .int .u32 (q.after : Int)] 39))
      have T1 := HTX.out.nx S1.out
      have RT := Lib.hid (Row.new wr #[.slice A1 q.ins.length c1, .slice A2 q.outs.length c2, .int .u32 (q.after : Int)] 39 _ rfl)
      have HR1 := Lib.hid (HR.out.nx S1.out)
      have HN1 := Lib.hid (HN.out.trans S1.out)
      have a0 := RT.out.cell (i := 0) (v := .slice A1 q.ins.length c1) rfl
      have a1 := RT.out.cell (i := 1) (v := .slice A2 q.outs.length c2) rfl
      obtain ⟨A1', c1', e1, p1, p2, hel1⟩ := T1.i.elem
      obtain ⟨rfl, -, rfl⟩ : A1 = A1' ∧ True ∧ c1 = c1' := by cases e1; exact ⟨rfl, trivial, rfl⟩
      obtain ⟨A2', c2', e2, p3, p4, hel2⟩ := T1.o.elem
      obtain ⟨rfl, -, rfl⟩ : A2 = A2' ∧ True ∧ c2 = c2' := by cases e2; exact ⟨rfl, trivial, rfl⟩
      unfold maxLen at p2 p4
      have HI1 := Lib.hid (show q.ins.length ≤ 9223372036854775807 by omega)
      have HI2 := Lib.hid (show q.outs.length ≤ 9223372036854775807 by omega)
      have HE1 := Lib.hid hel1
      have HE2 := Lib.hid hel2
      clear hlt hj hw hcell hb e1 e2 p1 p2 p3 p4 hel1 hel2 T1 HTX HR HN
      go_upto_region 7 with fail
      generalize wr.heap.size = g5 at *
      clear S1 k0 k1 k2
      generalize wr.alloc (.cells #[.slice A1 q.ins.length c1, .slice A2 q.outs.length c2, .int .u32 (q.after : Int)] 39) = W1 at *
      clear a0 a1 k67
      have a0 := RT.out.cell (i := 0) (v := .slice A1 q.ins.length c1) rfl
      go_wp2_with fail
      go_loopw [3, 6] (fun nv iv wr => ∃ (n : Int) (k : Nat), nv = .int .i64 n ∧ iv = .int .i64 (k : Int) ∧ k ≤ q.ins.length ∧ Hid (Nx W1 wr)) (fun _ iv _ => q.ins.length - (intOf iv).toNat)
      case atStart => exact ⟨_, 0, rfl, rfl, Nat.zero_le _, Lib.hid (Nx.refl _)⟩
      case round =>
        clear a0
        obtain ⟨n1, k, rfl, rfl, hk, HK⟩ := hrel
        have a0 := (RT.out.nx HK.out).cell (i := 0) (v := .slice A1 q.ins.length c1) rfl
        by_cases hlt : k < q.ins.length
        · obtain ⟨b', o', cs', rfl, hb', ⟨uv, rfl, hok, hu⟩, hcell'⟩ := HE1.out k hlt
          have HKK := Lib.hid hlt
          have hlt2 : (k : Int) < (q.ins.length : Int) := by omega
          have hk16 : (k : Int) < 9223372036854775807 := by have := HI1.out; omega
          generalize hq : q.ins[k] = p at *
          clear hq
          have hcu : wr.cell? ⟨b', o' + k * 35 + 34, none⟩ = some uv := by
            rw [HK.out.cell (p := ⟨b', o' + k * 35 + 34, none⟩) hb']
            exact hcell' 34 uv (by have := icel_u p uv hok; simpa [icel] using this)
          obtain ⟨A3, c3, rfl⟩ := hu.sl
          clear hlt hk hok hcell' hu hb'
          go_wp2_with fail
          go_roundw
          case rel => exact ⟨_, k + 1, rfl, by go_num, HKK.out, HK⟩
          case measure => have := HKK.out; simp [intOf]; omega
        · obtain rfl : k = q.ins.length := by omega
          clear hlt hk HE1
          have a1 := (RT.out.nx HK.out).cell (i := 1) (v := .slice A2 q.outs.length c2) rfl
          go_wp2_with fail
          go_loopw [3, 7] (fun nv iv wr => ∃ (n : Int) (k : Nat), nv = .int .i64 n ∧ iv = .int .i64 (k : Int) ∧ k ≤ q.outs.length ∧ Hid (Nx W1 wr)) (fun _ iv _ => q.outs.length - (intOf iv).toNat)
          case atStart => exact ⟨_, 0, rfl, rfl, Nat.zero_le _, HK⟩
          case round =>
            clear a0 a1 HK
            obtain ⟨n2, k, rfl, rfl, hk, HK⟩ := hrel
            have a1 := (RT.out.nx HK.out).cell (i := 1) (v := .slice A2 q.outs.length c2) rfl
            by_cases hlt : k < q.outs.length
            · obtain ⟨b', o', cs', rfl, hb', ⟨uv, rfl, hok, hu⟩, hcell'⟩ := HE2.out k hlt
              have HKK := Lib.hid hlt
              have hlt2 : (k : Int) < (q.outs.length : Int) := by omega
              have hk16 : (k : Int) < 9223372036854775807 := by have := HI2.out; omega
              generalize hq : q.outs[k] = p at *
              clear hq
              have hcu : wr.cell? ⟨b', o' + k * 2 + 1, none⟩ = some uv := by
                rw [HK.out.cell (p := ⟨b', o' + k * 2 + 1, none⟩) hb']
                exact hcell' 1 uv rfl
              obtain ⟨A3, c3, rfl⟩ := hu.sl
              clear hlt hk hok hcell' hu hb'
              go_wp2_with fail
              go_roundw
              case rel => exact ⟨_, k + 1, rfl, by go_num, HKK.out, HK⟩
              case measure => have := HKK.out; simp [intOf]; omega
            · obtain rfl : k = q.outs.length := by omega
              clear hlt hk HE2
              have HNX := Lib.hid (HN1.out.trans HK.out)
              have HRX := Lib.hid (HR1.out.nx HK.out)
              go_wp2_with fail
              go_roundw
              case rel => exact ⟨_, j + 1, rfl, by go_num, HJ.out, HNX, HRX⟩
              case measure => have := HJ.out; simp [intOf]; omega
    · obtain rfl : j = B.txs.length := by omega
      clear hlt hj HEL
      go_wp2_with fail
      go_ret
      exact ⟨_, rfl, HN.out⟩
end Go.Proofs.YtpijehaciomkhaaDoor
