/- LAYER 12: the program's Push. -/
import Derived.Test.YtbhoflmdhlchlaaStack4
namespace Go.Proofs.Ytbhoflmdhlchlaa
open Go Go.RowKit
set_option linter.unusedVariables false
set_option linter.unusedSimpArgs false
set_option linter.unusedVariables false
set_option linter.unusedSimpArgs false

set_option maxHeartbeats 1000000 in
theorem cpush_any (v : Value) (ls : List (List UInt8)) (vb : Value) (l : List UInt8) (w : World) (h : RdL w v ls) (hb : Rd w vb l) (hl : ∀ l ∈ ls, l.length ≤ 140737488355328) (hbl : l.length ≤ 140737488355328) :
    Calls Try.prog 36 #[v, vb] w fun e w' => ∃ r, e = .returned (.tuple #[r, .int .i64 (psE ls l)]) ∧ OwnL w.heap.size w' r (psL ls l) ∧ Nx w w' := by
  have HR := Lib.hid h
  have HB := Lib.hid hb
  obtain ⟨A, c, vs, rfl, -, -, -, -⟩ := h.parts
  obtain ⟨A1, c1, rfl, -, -, -⟩ := hb
  unfold psE psL
  by_cases h1 : 64 ≤ ls.length
  · rw [if_pos (.inl h1), if_pos (.inl h1)]
    have hd : decide ((64 : Int) ≤ (ls.length : Int)) = true := by simp; omega
    have hd' : (64 : Int) ≤ (ls.length : Int) := by omega
    clear h h1 hl hbl
    go_enter Try.func36, Try.ntmps36
    go_wp2_with fail
    go_ret2
    exact ⟨_, rfl, OwnL.nil _ _, Nx.refl _⟩
  · have hd' : ¬ (64 : Int) ≤ (ls.length : Int) := by omega
    by_cases h2 : 3000 < l.length
    · rw [if_pos (.inr h2), if_pos (.inr h2)]
      have he' : (3000 : Int) < (l.length : Int) := by omega
      clear h h1 h2 hl hbl
      go_enter Try.func36, Try.ntmps36
      go_wp2_with fail
      go_ret2
      exact ⟨_, rfl, OwnL.nil _ _, Nx.refl _⟩
    · have hno : ¬ (64 ≤ ls.length ∨ 3000 < l.length) := by omega
      rw [if_neg hno, if_neg hno]
      have he' : ¬ (3000 : Int) < (l.length : Int) := by omega
      have HC := Lib.hid (fun w hh => ccopied_any (.slice A ls.length c) ls w hh (by omega) hl)
      have HCB := Lib.hid (fun w hh => clone2_any (.slice A1 l.length c1) l w hh hbl)
      have HLN := Lib.hid h1
      clear h h1 h2 hno hl hbl
      go_enter Try.func36, Try.ntmps36
      go_wp2_with fail
      refine (HC.out _ HR.out).mono ?_
      rintro e w1 ⟨vx, rfl, ox, nx⟩
      have OX := Lib.hid ox
      have NX := Lib.hid nx
      clear ox nx
      go_wp2_with fail
      refine (HCB.out _ (HB.out.nx NX.out)).mono ?_
      rintro e w2 ⟨vy, rfl, oy, sy, ny⟩
      have OX2 := Lib.hid (OX.out.nx ny)
      have N2 := Lib.hid (NX.out.trans ny)
      have HBK := Lib.hid OX.out.blk
      have oy' := oy
      obtain ⟨A2, c2, rfl, -, -, -⟩ := oy
      have hvs : VsL vx.ownBlock (w2.alloc (.cells #[.slice A2 l.length c2] 23)) [.slice A2 l.length c2] [l] := VsL.single2 (oy'.alloc _) fun hp k hk he => by
        have h1 := (HBK.out k hk).2
        have h2 := sy hp k he
        omega
      have HVS := Lib.hid hvs
      clear oy' sy ny hvs
      go_wp2_with (at_builtin; refine wpList_appL rfl (.tmp 15) (.tmp 18) _ rfl Try.underlying40 w.heap.size vx (.slice (some ⟨w2.heap.size, 0, none⟩) 1 1) ls [l] [.slice A2 l.length c2] rfl rfl (OX2.out.nx ((Nx.refl w2).alloc _)) (RdC.one1 w2 _ _ rfl) HVS.out ?c2 ?c3 ?_)
      case c2 => 
        have h9 : ¬ 64 ≤ ls.length := HLN.out
        rw [List.length_singleton]
        omega
      case c3 => exact Nat.le_trans N2.out.size ((Nx.refl w2).alloc _).size
      intro v' w' o' b' _
      go_wp2_with fail
      go_ret2
      exact ⟨_, rfl, o', (N2.out.alloc _).app b'⟩
end Go.Proofs.Ytbhoflmdhlchlaa
