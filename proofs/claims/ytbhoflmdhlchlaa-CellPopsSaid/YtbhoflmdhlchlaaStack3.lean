/- LAYER 12: what is too great to go through; the document's Push. -/
import Derived.Test.YtbhoflmdhlchlaaStack1
namespace Go.Proofs.Ytbhoflmdhlchlaa
open Go Go.RowKit
set_option linter.unusedVariables false
set_option linter.unusedSimpArgs false
set_option linter.unusedVariables false
set_option linter.unusedSimpArgs false

/-- What great answers. -/
def GreatR (ls : List (List UInt8)) (r : Value) : Prop := r = .bool true ∨ (r = .bool false ∧ ls.length ≤ 81)
set_option maxHeartbeats 1000000 in
theorem great_any (v : Value) (ls : List (List UInt8)) (w : World) (h : RdL w v ls) (hl : ∀ l ∈ ls, l.length ≤ 140737488355328) :
    Calls Try.prog 35 #[v] w fun e w' => ∃ r : Value, e = .returned r ∧ GreatR ls r ∧ Nx w w' := by
  obtain ⟨A, c, vs, rfl, hc, hm, hv, ha⟩ := h.parts
  have HV := Lib.hid hv
  have HL := Lib.hid hl
  have hcm : (ls.length : Int) ≤ 9223372036854775807 := by simp only [maxLen] at hm; omega
  clear h hv hl hc hm
  go_enter Try.func35, Try.ntmps35
  go_wp2_with fail
  go_loopw [3, 4] (fun s i wr => ∃ (j q : Nat), j ≤ ls.length ∧ j ≤ 81 ∧ q ≤ 20000 ∧ i = .int .i64 j ∧ s = .int .i64 q ∧ Nx w wr) (fun _ i _ => ls.length - (intOf i).toNat)
  case atStart => exact ⟨0, 0, by omega, by omega, by omega, rfl, rfl, Nx.refl _⟩
  case round =>
    obtain ⟨j, q, hj, hj8, hq, rfl, rfl, hb⟩ := hrel
    by_cases hlt : j < ls.length
    · obtain ⟨b, o, rfl, hbb, hcell⟩ := ha (by omega)
      have hjv : j < vs.length := by have := HV.out.1; omega
      have g0 := (hb.cell (p := ⟨b, o + j, none⟩) hbb).trans (hcell j hjv)
      have hr := (HV.out.at j hjv hlt).nx hb
      obtain ⟨A1, c1, e1, -, -, -⟩ := hr
      rw [e1] at g0
      have hlt' : (j : Int) < (ls.length : Int) := by omega
      have hll : ls[j].length ≤ 140737488355328 := HL.out _ (List.getElem_mem hlt)
      have hj0 : (0 : Int) ≤ (j : Int) := by omega
      have HB := Lib.hid hb
      clear hcell e1 hb
      generalize ls[j].length = m at *
      have hw : wrap64 ((q : Int) + (m : Int)) = ((q + m : Nat) : Int) := by unfold wrap64; omega
      by_cases hgt : 20000 < q + m
      · have hd' : (20000 : Int) < (q : Int) + (m : Int) := by omega
        go_wp2_with fail
        go_ret
        exact ⟨_, rfl, .inl rfl, HB.out⟩
      · have hd' : ¬ (20000 : Int) < (q : Int) + (m : Int) := by omega
        have hw1 : wrap64 ((j : Int) + 1) = (j : Int) + 1 := by unfold wrap64; omega
        by_cases hg8 : 80 < j
        · have he : (80 : Int) < (j : Int) := by omega
          go_wp2_with fail
          go_ret
          exact ⟨_, rfl, .inl rfl, HB.out⟩
        · have he : ¬ (80 : Int) < (j : Int) := by omega
          go_wp2_with fail
          go_roundw
          case rel => exact ⟨j + 1, q + m, by omega, by omega, by omega, by go_num, by go_num, HB.out⟩
          case measure => simp [intOf]; omega
    · have hjl : j = ls.length := by omega
      go_wp2_with fail
      go_ret
      exact ⟨_, rfl, .inr ⟨rfl, by omega⟩, hb⟩
/-- What a push answers. -/
def psE (ls : List (List UInt8)) (b : List UInt8) : Int := if 64 ≤ ls.length ∨ 3000 < b.length then 3 else 0
def psL (ls : List (List UInt8)) (b : List UInt8) : List (List UInt8) := if 64 ≤ ls.length ∨ 3000 < b.length then [] else ls ++ [b]
set_option maxHeartbeats 1000000 in
theorem rpush_any (v : Value) (ls : List (List UInt8)) (vb : Value) (l : List UInt8) (w : World) (h : RdL w v ls) (hb : Rd w vb l) (hl : ∀ l ∈ ls, l.length ≤ 140737488355328) (hbl : l.length ≤ 140737488355328) :
    Calls Try.prog 37 #[v, vb] w fun e w' => ∃ r, e = .returned (.tuple #[r, .int .i64 (psE ls l)]) ∧ OwnL w.heap.size w' r (psL ls l) ∧ Nx w w' := by
  have HR := Lib.hid h
  have HB := Lib.hid hb
  obtain ⟨A, c, vs, rfl, -, -, -, -⟩ := h.parts
  obtain ⟨A1, c1, rfl, -, -, -⟩ := hb
  unfold psE psL
  by_cases h1 : 64 ≤ ls.length
  · rw [if_pos (.inl h1), if_pos (.inl h1)]
    have hd : decide ((64 : Int) ≤ (ls.length : Int)) = true := by simp; omega
    have hd' : (64 : Int) ≤ (ls.length : Int) := by omega
    clear h h1 hl hbl
    go_enter Try.func37, Try.ntmps37
    go_wp2_with fail
    go_ret2
    exact ⟨_, rfl, OwnL.nil _ _, Nx.refl _⟩
  · have hd' : ¬ (64 : Int) ≤ (ls.length : Int) := by omega
    by_cases h2 : 3000 < l.length
    · rw [if_pos (.inr h2), if_pos (.inr h2)]
      have he' : (3000 : Int) < (l.length : Int) := by omega
      clear h h1 h2 hl hbl
      go_enter Try.func37, Try.ntmps37
      go_wp2_with fail
      go_ret2
      exact ⟨_, rfl, OwnL.nil _ _, Nx.refl _⟩
    · have hno : ¬ (64 ≤ ls.length ∨ 3000 < l.length) := by omega
      rw [if_neg hno, if_neg hno]
      have he' : ¬ (3000 : Int) < (l.length : Int) := by omega
      have HC := Lib.hid (fun w hh => rcopied_any (.slice A ls.length c) ls w hh (by omega) hl)
      have HCB := Lib.hid (fun w hh => copy_any (.slice A1 l.length c1) l w hh hbl)
      have HLN := Lib.hid h1
      clear h h1 h2 hno hl hbl
      go_enter Try.func37, Try.ntmps37
      go_wp2_with fail
      refine (HC.out _ HR.out).mono ?_
      rintro e w1 ⟨vx, rfl, ox, nx⟩
      have OX := Lib.hid ox
      have NX := Lib.hid nx
      clear ox nx
      go_wp2_with fail
      refine (HCB.out _ (HB.out.nx NX.out)).mono ?_
      rintro e w2 ⟨vy, rfl, oy, ny⟩
      have OX2 := Lib.hid (OX.out.nx ny)
      have N2 := Lib.hid (NX.out.trans ny)
      have HBK := Lib.hid OX.out.blk
      have oy' := oy
      obtain ⟨A2, c2, rfl, -, -, -⟩ := oy.rd
      have hvs : VsL vx.ownBlock (w2.alloc (.cells #[.slice A2 l.length c2] 23)) [.slice A2 l.length c2] [l] := VsL.single (oy'.rd.alloc _) fun k hk he => by
        have h1 := (HBK.out k hk).2
        have h2 := oy'.block k he
        omega
      have HVS := Lib.hid hvs
      clear oy oy' ny hvs
      go_wp2_with (at_builtin; refine wpList_appL rfl (.tmp 15) (.tmp 18) _ rfl Try.underlying40 w.heap.size vx (.slice (some ⟨w2.heap.size, 0, none⟩) 1 1) ls [l] [.slice A2 l.length c2] rfl rfl (OX2.out.nx ((Nx.refl w2).alloc _)) (RdC.one1 w2 _ _ rfl) HVS.out ?c2 ?c3 ?_)
      case c2 => 
        have h9 : ¬ 64 ≤ ls.length := HLN.out
        rw [List.length_singleton]
        omega
      case c3 => exact Nat.le_trans N2.out.size ((Nx.refl w2).alloc _).size
      intro v' w' o' b' _
      go_wp2_with fail
      go_ret2
      exact ⟨_, rfl, o', (N2.out.alloc _).app b'⟩
end Go.Proofs.Ytbhoflmdhlchlaa
