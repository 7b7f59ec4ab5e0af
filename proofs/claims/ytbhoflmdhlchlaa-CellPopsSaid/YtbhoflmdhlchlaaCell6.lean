/- LAYER 12: Push of one cell; lives. -/
import Derived.Test.YtbhoflmdhlchlaaCell5
namespace Go.Proofs.Ytbhoflmdhlchlaa
open Go Go.RowKit
set_option linter.unusedVariables false
set_option linter.unusedSimpArgs false

theorem info_row : (Try.prog.info? 23).map (fun i => (i.zero, i.size, i.bytes)) = some (some (.slice none 0 0), 1, 24) := by kernel_rfl
set_option maxHeartbeats 1000000 in
theorem cpush1_any (v : Value) (l : List UInt8) (w : World) (hr : Rd w v l) (hl : l.length ≤ 3000) :
    Calls Try.prog 36 #[.slice none 0 0, v] w fun e w' => ∃ g c v', e = .returned (.tuple #[.slice (some ⟨g, 0, none⟩) 1 c, .int .i64 0]) ∧ w'.cell? ⟨g, 0, none⟩ = some v' ∧ Rd w' v' l ∧ Nx w w' := by
  have HR := Lib.hid hr
  have HCL := Lib.hid (fun v w h => cclone_any v l w h (by omega))
  obtain ⟨A, c, rfl, hc, hmx, ha⟩ := hr
  obtain ⟨i0, hi, hz0, hz1, hz2⟩ := info_parts info_row
  have d1 : decide ((3000 : Int) < (l.length : Int)) = false := decide_eq_false (by omega)
  have d1' : decide (3000 < l.length) = false := decide_eq_false (by omega)
  clear ha
  go_enter Try.func36, Try.ntmps36
  go_wp2_with fail
  refine (ccopied0 w).mono ?_
  rintro e w1 ⟨rfl, rfl⟩
  have N1 := Lib.hid ((Nx.refl w).alloc (.cells #[] 23))
  have hb1 : (w.alloc (.cells #[] 23)).heap[w.heap.size]? = some (.cells #[] 23 (0, 0)) := heap_alloc_new w _
  have HB := Lib.hid hb1
  clear hb1
  go_wp2_with fail
  refine (HCL.out _ _ (HR.out.nx N1.out)).mono ?_
  rintro e w2 ⟨v2, rfl, r2, n2⟩
  have R2 := Lib.hid r2
  have N2 := Lib.hid (N1.out.trans n2)
  have HB2 := Lib.hid (n2.blk HB.out)
  obtain ⟨A2, c2, rfl, -⟩ := r2
  clear n2
  go_wp2_with (at_builtin; go_loud (refine wpList_append_own _ rfl (.tmp 15) (.tmp 18) _ rfl w.heap.size 23 i0 (.slice none 0 0) 1 24 Try.underlying40 hi hz0 hz1 hz2 rfl (by decide) (.slice (some ⟨w.heap.size, 0, none⟩) 0 0) 0 [] rfl ?c1 ⟨w2.heap.size, 0, none⟩ 1 1 [.slice A2 l.length c2] rfl rfl ?c2 ?c3 ?c4 ?c5 ?c6 ?_))
  case c1 =>
    have h := N2.out.size
    refine ⟨rfl, .inr ⟨w.heap.size, 0, #[], rfl, Nat.le_refl _, ?_, Nat.le_refl _, by simp [maxLen], rfl, rfl⟩⟩
    exact ((Nx.refl w2).alloc _).blk HB2.out
  case c2 =>
    intro j u hu
    have : j = 0 := by
      rcases j with _ | j
      · rfl
      · simp at hu
    subst this
    obtain rfl : Value.slice A2 l.length c2 = u := by simpa using hu
    rw [addr_add]
    exact World.cell?_alloc_at _ _ _ _ rfl
  case c3 => intro u hu; obtain rfl : u = Value.slice A2 l.length c2 := by simpa using hu
             rfl
  case c4 => simp [maxLen]
  case c5 => decide
  case c6 => have := N2.out.size; simp; omega
  intro v' w3 hown hg hnil
  have N3 : Hid (Nx w w3) := Lib.hid (Nx.grown (N2.out.alloc _) hg (fun k hk => by
    have : k = w.heap.size := by simpa [Value.ownBlock] using hk.symm
    omega))
  have R3 : Hid (Rd w3 (.slice A2 l.length c2) l) := Lib.hid (by
    obtain ⟨A3, c3, e, h1, h2, h3⟩ := R2.out
    obtain ⟨rfl, rfl⟩ : A2 = A3 ∧ c2 = c3 := by injection e with e1 e2 e3; exact ⟨e1, e3⟩
    refine ⟨_, _, rfl, h1, h2, fun hl0 => ?_⟩
    obtain ⟨b, o, hA, hb, hcc⟩ := h3 hl0
    refine ⟨b, o, hA, Nat.lt_of_lt_of_le hb (Nat.le_trans (by simp) hg.size), fun j hj => ?_⟩
    have hne : (Value.ownBlock (.slice (some ⟨w.heap.size, 0, none⟩) 0 0)) ≠ some b := by
      intro hk
      have hk' : w.heap.size = b := by simpa [Value.ownBlock] using hk
      subst hk'
      have hx := hcc j hj
      have hB := HB2.out
      simp [World.cell?, hB] at hx
    have hold := (((Nx.refl w2).alloc (.cells #[.slice A2 l.length c2] 23)).cell (p := ⟨b, o + j, none⟩) hb).trans (hcc j hj)
    have hlt : b < (w2.alloc (.cells #[.slice A2 l.length c2] 23)).heap.size := by simp; omega
    have hblk := hg.block b hlt (fun e => hne e.symm)
    have : w3.cell? ⟨b, o + j, none⟩ = (w2.alloc (.cells #[.slice A2 l.length c2] 23)).cell? ⟨b, o + j, none⟩ := by
      simp only [World.cell?, hblk]
    rw [this]; exact hold)
  have hown2 := hown
  rcases hown2.2 with ⟨rfl, h0⟩ | ⟨g, cap, cur, rfl, -⟩
  · simp at h0
  · have hcell := hown.cellAt 0 (by decide)
    clear hg hnil
    have HC : Hid (w3.cell? ⟨g, 0, none⟩ = some (.slice A2 l.length c2)) := Lib.hid (by rw [hcell]; rfl)
    clear hown hcell hown2
    go_wp2_with fail
    go_ret2
    exact ⟨g, cap, _, rfl, HC.out, R3.out, N3.out⟩

theorem num_a (w : World) (v : Value) (h : Rd w v [128, 0]) : Calls Try.prog 26 #[v] w fun e w' => e = .returned (.tuple #[.int .i64 128, .int .i64 0]) ∧ Nx w w' := by
  have := cnumber_any v _ w h
  rwa [show numV [128, 0] = 128 by decide, show numE [128, 0] = 0 by decide] at this
theorem num_b (w : World) (v : Value) (h : Rd w v [0]) : Calls Try.prog 26 #[v] w fun e w' => e = .returned (.tuple #[.int .i64 0, .int .i64 5]) ∧ Nx w w' := by
  have := cnumber_any v _ w h
  rwa [show numV [0] = 0 by decide, show numE [0] = 5 by decide] at this
theorem two_a (w : World) : Calls Try.prog 41 #[.int .u8 15, .int .i64 4611686018427387904, .int .i64 2] w fun e w' => e = .returned (.tuple #[.int .i64 0, .int .i64 3]) ∧ w = w' := by
  have := ctwo_any 15 4611686018427387904 2 w (by decide) (by decide) (by decide)
  rwa [show twoR 15 4611686018427387904 2 = (0, 3) by decide] at this
theorem true_a (w : World) (v : Value) (h : Rd w v [5]) : Calls Try.prog 30 #[v] w fun e w' => e = .returned (.bool true) ∧ w = w' := by
  have := ctrue_any v _ w h
  rwa [show nz [5] = true by decide] at this
theorem bytes_a (w : World) : Calls Try.prog 28 #[.int .i64 (-1)] w fun e w' => ∃ v, e = .returned v ∧ Own w.heap.size w' v [255] ∧ Nx w w' := by
  have := cbytes_any (-1) w (by decide)
  rwa [show bytesI (-1) = [255] by decide] at this

set_option maxHeartbeats 2000000 in
theorem clives_any (w : World) : Calls Try.prog 34 #[] w fun e w' => e = .returned (.bool true) ∧ Nx w w' := by
  go_enter Try.func34, Try.ntmps34
  go_wp2_with fail
  refine (num_a _ _ (Rd.lit _ _ _ _ _ rfl rfl (by simp) (by simp))).mono ?_
  rintro e w1 ⟨rfl, n1⟩
  have N1 := Lib.hid (((Nx.refl w).alloc _).trans n1)
  clear n1
  go_wp2_with fail
  refine (num_b _ _ (Rd.lit _ _ _ _ _ rfl rfl (by simp) (by simp))).mono ?_
  rintro e w2 ⟨rfl, n2⟩
  have N2 := Lib.hid ((N1.out.alloc _).trans n2)
  clear n2 N1
  go_wp2_with fail
  refine (two_a _).mono ?_
  rintro e w3 ⟨rfl, rfl⟩
  go_wp2_with fail
  refine (cpush1_any _ [5] _ (Rd.lit _ _ _ _ _ rfl rfl (by simp) (by simp)) (by decide)).mono ?_
  rintro e w4 ⟨g, c, v', rfl, hc4, r4, n4⟩
  have N4 := Lib.hid ((N2.out.alloc _).trans n4)
  have R4 := Lib.hid r4
  clear r4 n4 N2
  go_wp2_with fail
  refine (true_a _ _ R4.out).mono ?_
  rintro e w5 ⟨rfl, rfl⟩
  clear hc4
  go_wp2_with fail
  refine (bytes_a _).mono ?_
  rintro e w6 ⟨v6, rfl, o6, n6⟩
  have N6 := Lib.hid (N4.out.trans n6)
  have R6 := Lib.hid o6.rd
  clear o6 n6 N4
  go_wp2_with fail
  refine (same_yes _ _ _ _ (R6.out.alloc _) (Rd.lit _ [255] _ _ _ rfl rfl (by simp) (by simp))).mono ?_
  rintro e w7 ⟨rfl, n7⟩
  have N7 := Lib.hid ((N6.out.alloc _).trans n7)
  clear n7 N6
  go_wp2_with fail
  go_ret
  exact ⟨rfl, N7.out⟩
end Go.Proofs.Ytbhoflmdhlchlaa
