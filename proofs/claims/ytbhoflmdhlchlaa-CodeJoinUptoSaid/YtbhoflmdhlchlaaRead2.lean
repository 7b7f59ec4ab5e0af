/- LAYER 11: the document's Read. -/
import Derived.Test.YtbhoflmdhlchlaaRead1
namespace Go.Proofs.Ytbhoflmdhlchlaa
open Go Go.RowKit
set_option linter.unusedVariables false
set_option linter.unusedSimpArgs false
set_option linter.unusedVariables false
set_option linter.unusedSimpArgs false

def slen : Value → Nat
  | .slice _ n _ => n
  | _ => 0
theorem RdF.lit (w : World) (cs : List Value) (k : Nat) (T : TypeId) (hk : cs.length = k) (h1 : ∀ u ∈ cs, u.oneCell' = true) : RdF k (w.alloc (.cells cs.toArray T)) (.slice (some ⟨w.heap.size, 0, none⟩) 1 1) 1 cs := by
  refine ⟨by omega, h1, _, _, rfl, Nat.le_refl _, by simp [maxLen], fun _ => ⟨w.heap.size, 0, rfl, by simp, fun j hj => ?_⟩⟩
  rw [Nat.zero_add, World.cell?_alloc_at _ _ _ _ rfl]
  simp [List.getElem?_eq_getElem hj]
theorem step_one (x : Int) (A : Option Addr) (n c : Nat) : ∀ u ∈ [(.int .u8 x : Value), .slice A n c], u.oneCell' = true := by
  intro u hu
  simp at hu
  rcases hu with rfl | rfl <;> rfl
theorem info_stepb : (Try.prog.info? 55).map (fun i => (i.zero, i.size, i.bytes)) = some (some (.agg #[.int .u8 0, .slice none 0 0]), 2, 32) := by kernel_rfl
theorem rdG_step {m : Nat} {b : List UInt8} {l : List Step} (hb : b ≠ []) : rdG (m + 1) b l = if (oneS b).2.2 = 0 then rdG m (b.drop (oneS b).2.1) (l ++ [(oneS b).1]) else ([], (oneS b).2.2) := by
  show (if b = [] then _ else _) = _
  rw [if_neg hb]
/-- A step of the call's own, of bytes of the call's own, behind a list of the call's own. -/
theorem step_apart {w w' : World} {B : Nat} {s u : Value} {l : List Step} {x : UInt8} {p : List UInt8} (hs : OwnE stepEl B w s l) (hu : Own w.heap.size w' u p) : AllE stepEl s.ownBlock w' [.int .u8 (x.toNat : Int), u] [(x, p)] :=
  AllE.single ⟨u, rfl, hu.rd, fun _ q hq he => by
    have h1 := (hs.blk q hq).2
    have h2 := hu.block q he
    omega⟩
set_option maxRecDepth 100000 in
set_option maxHeartbeats 4000000 in
theorem rread_any (v : Value) (b : List UInt8) (w : World) (h : Rd w v b) (hn : b.length ≤ 140737488355328) :
    Calls Try.prog 23 #[v] w fun e w' => ∃ r, e = .returned (.tuple #[r, .int .i64 (readS b).2]) ∧ OwnE stepEl w.heap.size w' r (readS b).1 ∧ Nx w w' := by
  have HR := Lib.hid h
  obtain ⟨A, c, rfl, -, -, -⟩ := h
  have HN := Lib.hid hn
  clear hn
  go_enter Try.func23, Try.ntmps23
  go_wp2_with fail
  go_loopw [0, 4] (fun x s wr => ∃ (l : List Step) (bb : List UInt8), Rd w x bb ∧ OwnE stepEl w.heap.size wr s l ∧ l.length ≤ 200 ∧ bb.length ≤ b.length ∧ Hid (rdG (200 - l.length) bb l = readS b) ∧ Nx w wr) (fun x _ _ => slen x)
  case atStart => exact ⟨[], b, HR.out, OwnE.nil _ _, by simp, Nat.le_refl _, rfl, Nx.refl _⟩
  case round =>
    obtain ⟨l, bb, hrd, hown, hl, hbl, HG, hx⟩ := hrel
    have HRD := Lib.hid hrd
    have HOW := Lib.hid hown
    have HX := Lib.hid hx
    have HBL := Lib.hid hbl
    have HLL := Lib.hid hl
    obtain ⟨A1, c1, rfl, hc1, hm1, ha1⟩ := hrd
    obtain ⟨A2, c2, fs, rfl, -, -, -, -⟩ := hown.rd.parts
    by_cases hb0 : bb = []
    · have HV : Hid (readS b = (l, 0)) := Lib.hid (by rw [← HG.out, hb0, rdG_nil])
      have h0 : ¬ (0 : Int) < (bb.length : Int) := by rw [hb0]; simp
      clear hb0 hown hl hbl hc1 hm1 ha1 hx
      go_wp2_with fail
      go_ret2
      exact ⟨_, by rw [HV.out]; rfl, by rw [HV.out]; exact HOW.out, HX.out⟩
    · have h0 : (0 : Int) < (bb.length : Int) := by have := List.length_pos_iff.2 hb0; omega
      by_cases h2 : l.length = 200
      · have HV : Hid (readS b = ([], 3)) := Lib.hid (by
          rw [← HG.out, h2]
          show (if bb = [] then _ else _) = _
          rw [if_neg hb0])
        have he : ((l.length : Int) == 200) = true := by rw [h2]; rfl
        clear hb0 hown hl hbl hc1 hm1 ha1 hx h2
        go_wp2_with fail
        go_ret2
        exact ⟨_, by rw [HV.out]; rfl, by rw [HV.out]; exact OwnE.nil _ _, HX.out⟩
      · have he : ((l.length : Int) == 200) = false := by rw [beq_eq_false_iff_ne]; omega
        have HB0 := Lib.hid hb0
        have HG1 : Hid (readS b = if (oneS bb).2.2 = 0 then rdG (199 - l.length) (bb.drop (oneS bb).2.1) (l ++ [(oneS bb).1]) else ([], (oneS bb).2.2)) := Lib.hid (by
          rw [← HG.out, show 200 - l.length = (199 - l.length) + 1 by omega, rdG_step hb0])
        have HGOT := Lib.hid (oneS_got hb0)
        have HL2 : Hid (l.length + 1 ≤ 200) := Lib.hid (by omega)
        have HON := Lib.hid (one_any (.slice A1 bb.length c1) bb wr (HRD.out.nx hx) hb0 (Nat.le_trans hbl HN.out))
        have HFR := Lib.hid (fun (k : Nat) (hk : k ≤ bb.length) W => slice_fromV (P := Try.prog) 23 5 Try.underlying23 Try.sizeOf5 A1 bb.length c1 k (k : Int) rfl hk hc1 W)
        have HFD := Lib.hid (fun (k : Nat) (hk : k ≤ bb.length) => fromV_rd ha1 hc1 hm1 k hk)
        clear hb0 hown hl hbl hc1 hm1 ha1 hx h2 HG
        go_wp2_with fail
        refine HON.out.mono ?_
        rintro e w1 ⟨u, rfl, ou, n1⟩
        have hou := ou
        obtain ⟨A3, c3, rfl, -, -, -⟩ := ou.rd
        generalize oneS bb = OB at *
        obtain ⟨⟨op, p⟩, k, E⟩ := OB
        dsimp only at hou ou HG1 HGOT ⊢
        have HOU := Lib.hid hou
        have Z1 := Row.new w1 #[.int .u8 0, .slice none 0 0] 55 _ rfl
        have R1 := Z1.setRow #[.int .u8 (op.toNat : Int), .slice A3 p.length c3]
        have HSZ := Lib.hid (stepsz (.int .u8 (op.toNat : Int)) (.slice A3 p.length c3))
        have S1 : Nx w1 ((w1.alloc (.cells #[.int .u8 0, .slice none 0 0] 55)).setRow w1.heap.size #[.int .u8 (op.toNat : Int), .slice A3 p.length c3]) := ((Nx.refl w1).alloc _).setRow _ (Nat.le_refl _)
        have HS1 := Lib.hid S1
        have N1 := Lib.hid (n1.trans S1)
        clear ou hou n1 S1 HON
        by_cases hE : E = 0
        · subst hE
          obtain ⟨g1, g2, g3, g4⟩ := HGOT.out rfl
          have HK := Lib.hid g3
          have HK1 := Lib.hid g2
          rw [if_pos rfl] at HG1
          clear g1 g2 g3 g4
          have HOW2 := Lib.hid (HOW.out.nx (N1.out.alloc (.cells #[.int .u8 (op.toNat : Int), .slice A3 p.length c3] 55)))
          have HSZ1 : Hid (((w1.alloc (.cells #[.int .u8 0, .slice none 0 0] 55)).setRow w1.heap.size #[.int .u8 (op.toNat : Int), .slice A3 p.length c3]).heap.size = w1.heap.size + 1) := Lib.hid (by simp)
          have HRF := RdF.lit ((w1.alloc (.cells #[.int .u8 0, .slice none 0 0] 55)).setRow w1.heap.size #[.int .u8 (op.toNat : Int), .slice A3 p.length c3]) [.int .u8 (op.toNat : Int), .slice A3 p.length c3] 2 55 rfl (step_one _ _ _ _)
          rw [HSZ1.out] at HRF
          replace HRF := Lib.hid HRF
          have HAE := Lib.hid (step_apart (x := op) HOW.out ((HOU.out.nx HS1.out).nx ((Nx.refl _).alloc (.cells #[.int .u8 (op.toNat : Int), .slice A3 p.length c3] 55))))
          have N2 := Lib.hid (HX.out.trans (N1.out.alloc (.cells #[.int .u8 (op.toNat : Int), .slice A3 p.length c3] 55)))
          clear HSZ1
          go_wp2_with (first | (refine wpList_store_row rfl 55 (.tmp 5) (.tmp 17) rfl w1.heap.size #[.int .u8 (op.toNat : Int), .slice A3 p.length c3] rfl rfl 55 #[.int .u8 0, .slice none 0 0] Z1 HSZ.out rfl (stepone _ _ _ _) ?_) | (refine wpList_load_row rfl 55 (.tmp 5) rfl w1.heap.size rfl 55 #[.int .u8 (op.toNat : Int), .slice A3 p.length c3] (0, 0) _ R1 Try.underlying55 rfl HSZ.out ?_) | (at_builtin; refine wpList_appE stepEl rfl (.tmp 23) (.tmp 25) 22 rfl (.agg #[.int .u8 0, .slice none 0 0]) 32 Try.underlying22 info_stepb rfl w.heap.size (.slice A2 l.length c2) (.slice (some ⟨w1.heap.size + 1, 0, none⟩) 1 1) l [(op, p)] [.int .u8 (op.toNat : Int), .slice A3 p.length c3] rfl rfl HOW2.out HRF.out HAE.out ?e1 ?e2 ?e3 ?_))
          case e1 => have := HLL.out; simp; omega
          case e2 => have := HLL.out; simp [maxLen]; omega
          case e3 => simpa using N2.out.size
          intro v' w' o' b' _
          have HO := Lib.hid o'
          have NB := Lib.hid (N2.out.app b')
          clear Z1 R1 o' b'
          go_wp2_with (first | (refine wpList_cut (some 29) rfl rfl 23 (.tmp 27) (some (.tmp 28)) none none rfl (fromV A1 bb.length c1 k) ?_ ?_; focus exact HFR.out k HK.out _))
          go_roundw
          case rel => exact ⟨l ++ [(op, p)], bb.drop k, HFD.out k HK.out, HO.out, by rw [List.length_append]; exact HL2.out, by rw [List.length_drop]; have := HBL.out; omega, show _ = _ by rw [HG1.out, List.length_append, List.length_singleton, show 200 - (l.length + 1) = 199 - l.length by omega], NB.out⟩
          case measure =>
            have h1 := HK1.out
            have h2 := HK.out
            show bb.length - k < bb.length
            omega
        · have dE : (E != 0) = true := by rw [bne_iff_ne]; exact hE
          rw [if_neg hE] at HG1
          clear hE
          go_wp2_with (first | (refine wpList_store_row rfl 55 (.tmp 5) (.tmp 17) rfl w1.heap.size #[.int .u8 (op.toNat : Int), .slice A3 p.length c3] rfl rfl 55 #[.int .u8 0, .slice none 0 0] Z1 HSZ.out rfl (stepone _ _ _ _) ?_))
          go_ret2
          exact ⟨_, by rw [HG1.out]; rfl, by rw [HG1.out]; exact OwnE.nil _ _, HX.out.trans N1.out⟩
end Go.Proofs.Ytbhoflmdhlchlaa
