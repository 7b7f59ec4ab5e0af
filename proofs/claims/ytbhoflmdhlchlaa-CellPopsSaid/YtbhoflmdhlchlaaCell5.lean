/- LAYER 12: the document's Number; Push of one cell; lives. -/
import Derived.Test.YtbhoflmdhlchlaaCellR2
import Derived.Laws.OwnMore
namespace Go.Proofs.Ytbhoflmdhlchlaa
open Go Go.RowKit
set_option linter.unusedVariables false
set_option linter.unusedSimpArgs false

theorem bytesI_len (l : List UInt8) (h : l.length ≤ 8) : (bytesI (numI l)).length = l.length ↔ bytesI (numI l) = l := by
  constructor
  · intro e
    unfold bytesI at e ⊢
    rw [loI_length] at e
    rw [e]
    exact loI_numI l h
  · intro e; rw [e]
set_option maxHeartbeats 1000000 in
theorem rnumber_any (v : Value) (l : List UInt8) (w : World) (hr : Rd w v l) :
    Calls Try.prog 27 #[v] w fun e w' => e = .returned (.tuple #[.int .i64 (numV l), .int .i64 (numE l)]) ∧ Nx w w' := by
  have HR := Lib.hid hr
  obtain ⟨A, c, rfl, hc, hmx, ha⟩ := hr
  by_cases h8 : l.length ≤ 8
  · have HW := Lib.hid (fun W h => rworth_any (.slice A l.length c) l W h h8)
    have HNB := Lib.hid (fun w => rbytes_any (numI l) w (numI_range l h8))
    have HBL := Lib.hid (bytesI_len l h8)
    have HE : Hid (numE l = if bytesI (numI l) = l then 0 else 5) := Lib.hid (by
      unfold numE
      by_cases hb : bytesI (numI l) = l
      · rw [if_pos ⟨h8, hb⟩, if_pos hb]
      · rw [if_neg (fun h => hb h.2), if_neg hb])
    have HV : Hid (numV l = if bytesI (numI l) = l then numI l else 0) := Lib.hid (by
      unfold numV
      by_cases hb : bytesI (numI l) = l
      · rw [if_pos ⟨h8, hb⟩, if_pos hb]
      · rw [if_neg (fun h => hb h.2), if_neg hb])
    generalize numE l = E at *
    generalize numV l = V at *
    generalize numI l = N at *
    generalize bytesI N = bs at *
    clear ha
    have d8 : decide ((8 : Int) < (l.length : Int)) = false := decide_eq_false (by omega)
    have d8' : decide (8 < l.length) = false := decide_eq_false (by omega)
    by_cases hb : bs = l
    · have hbl : ((bs.length : Int) != (l.length : Int)) = false := by have := HBL.out.2 hb; simp [this]
      have HBB := Lib.hid hb
      clear hb
      go_enter Try.func27, Try.ntmps27
      go_wp2_with fail
      refine (HW.out w HR.out).mono ?_
      rintro e w1 ⟨rfl, rfl⟩
      go_wp2_with fail
      refine (HNB.out w).mono ?_
      rintro e w1 ⟨v1, rfl, o1, n1⟩
      have N1 := Lib.hid n1
      obtain ⟨A1, c1, rfl, -⟩ := o1.rd
      clear o1 n1
      go_wp2_with fail
      refine (HW.out w1 (HR.out.nx N1.out)).mono ?_
      rintro e w2 ⟨rfl, rfl⟩
      go_wp2_with fail
      go_ret2
      exact ⟨by rw [HE.out, HV.out, if_pos HBB.out, if_pos HBB.out]; rfl, N1.out⟩
    · have hbl : ((bs.length : Int) != (l.length : Int)) = true := by
        rw [bne_iff_ne]; intro e; exact hb (HBL.out.1 (by omega))
      have HBB := Lib.hid hb
      clear hb
      go_enter Try.func27, Try.ntmps27
      go_wp2_with fail
      refine (HW.out w HR.out).mono ?_
      rintro e w1 ⟨rfl, rfl⟩
      go_wp2_with fail
      refine (HNB.out w).mono ?_
      rintro e w1 ⟨v1, rfl, o1, n1⟩
      have N1 := Lib.hid n1
      obtain ⟨A1, c1, rfl, -⟩ := o1.rd
      clear o1 n1
      go_wp2_with fail
      go_ret2
      exact ⟨by rw [HE.out, HV.out, if_neg HBB.out, if_neg HBB.out]; rfl, N1.out⟩
  · have d1 : decide ((8 : Int) < (l.length : Int)) = true := decide_eq_true (by omega)
    have d1' : decide (8 < l.length) = true := decide_eq_true (by omega)
    rw [show numV l = 0 from if_neg fun h => h8 h.1, show numE l = 5 from if_neg fun h => h8 h.1]
    clear h8
    go_enter Try.func27, Try.ntmps27
    go_wp2_with fail
    go_ret2
    exact ⟨rfl, Nx.refl _⟩

theorem ccopied0 (w : World) : Calls Try.prog 58 #[.slice none 0 0] w fun e w' => e = .returned (.slice (some ⟨w.heap.size, 0, none⟩) 0 0) ∧ w.alloc (.cells #[] 23) = w' := by
  have hmk : ∀ w, (Instr.makeSlice 40 (.int .i64 0) (.int .i64 0)).run Try.prog w = .ok (.slice (some ⟨w.heap.size, 0, none⟩) 0 0) (w.alloc (.cells #[] 23)) := fun w => by kernel_rfl
  go_enter Try.func58, Try.ntmps58
  go_wp2_with fail
  refine wp_loop_rounds 1 ?_
  rw [rounds_succ]
  go_wp2_with fail
  go_ret
  exact ⟨rfl, rfl⟩
theorem cclone_any (v : Value) (l : List UInt8) (w : World) (hr : Rd w v l) (hb : l.length ≤ 140737488355328) :
    Calls Try.prog 59 #[v] w fun e w' => ∃ v', e = .returned v' ∧ Rd w' v' l ∧ Nx w w' := by
  obtain ⟨A, c, rfl, hc, hm, ha⟩ := hr
  rcases A with _ | a
  · have h0 : l.length = 0 := by
      rcases Nat.eq_zero_or_pos l.length with h | h
      · exact h
      · obtain ⟨b, o, e, _⟩ := ha h; cases e
    refine (Try.bytes_Clone_nil l.length c w).mono fun e w' ⟨h1, h2⟩ => ⟨_, h1, ?_, by rw [h2]; exact Nx.refl _⟩
    obtain rfl := List.eq_nil_of_length_eq_zero h0
    exact Rd.nil _
  · have hcell : ∀ i, i < l.length → w.cell? (a.add i) = some (.int .u8 ((l.map fun x => (x.toNat : Int)).getD i 0)) := fun i hi => by
      obtain ⟨b, o, e, hb, hcc⟩ := ha (by omega)
      obtain rfl : a = ⟨b, o, none⟩ := by injection e
      rw [addr_add, hcc i hi]
      simp [List.getD_eq_getElem?_getD, List.getElem?_eq_getElem hi]
    refine (Try.bytes_Clone_at a l.length c (l.map fun x => (x.toNat : Int)) w (by simp) hb hcell).mono fun e w' ⟨v', h1, h2, h3, h4⟩ => ⟨v', h1, ?_, h4⟩
    have hown := h2
    rcases h2.2 with ⟨rfl, h0⟩ | ⟨g, cap, cur, rfl, hbg, hg, hcap, hmax, hsz, htake⟩
    · exact absurd rfl h3
    · refine ⟨_, _, rfl, hcap, hmax, At.of_cells (Array.getElem?_eq_some_iff.1 hg).1 fun j hj => ?_⟩
      rw [Nat.zero_add, hown.cellAt j (by omega)]
      simp [List.getElem?_eq_getElem hj]
end Go.Proofs.Ytbhoflmdhlchlaa
