/- LAYER 11: steps: slices.IndexFunc, slices.ContainsFunc; Pushes of the program. -/
import Derived.Test.YtbhoflmdhlchlaaStep2
namespace Go.Proofs.Ytbhoflmdhlchlaa
open Go Go.RowKit
set_option linter.unusedVariables false
set_option linter.unusedSimpArgs false
set_option linter.unusedVariables false
set_option linter.unusedSimpArgs false

theorem info_step : (Try.prog.info? 55).map (fun i => (i.zero, i.size)) = some (some (.agg #[.int .u8 0, .slice none 0 0]), 2) := by kernel_rfl
theorem stepsz (a b : Value) : (Try.prog.info? 55).map (·.size) = some (#[a, b] : Array Value).size := by
  show _ = some 2
  kernel_rfl
theorem step_cells {w : World} {b o : Nat} {x u : Value} (h0 : w.cell? ⟨b, o, none⟩ = some x) (h1 : w.cell? ⟨b, o + 1, none⟩ = some u) : ∀ q y, (#[x, u] : Array Value)[q]? = some y → w.cell? ⟨b, o + q, none⟩ = some y := by
  intro q y hq
  match q with
  | 0 => simpa [h0] using hq
  | 1 => simpa [h1] using hq
  | q + 2 => simp at hq
set_option maxHeartbeats 1000000 in
theorem sindex_any (f : FuncId) (p : Step → Bool) (hent : ∀ (args : Array Value) (w : World), (callFunc f args).run Try.prog w = .ok (.enter f args) w) (HF : ∀ (a : Step) (u : Value) (w : World), Rd w u a.2 → Calls Try.prog f #[.agg #[.int .u8 (a.1.toNat : Int), u]] w fun e w' => e = .returned (.bool (p a)) ∧ Nx w w')
    (v : Value) (es : List Step) (w : World) (h : RdE stepEl w v es) (hn : es.length ≤ 140737488355328) :
    Calls Try.prog 65 #[v, .func (.func f) #[] #[]] w fun e w' => ∃ r : Int, e = .returned (.int .i64 r) ∧ Hid (decide (0 ≤ r) = es.any p) ∧ Nx w w' := by
  have HR := Lib.hid h
  have HC := Lib.hid HF
  obtain ⟨A, c, fs, rfl, -, -, -, -⟩ := h.parts
  have hjb : (es.length : Int) ≤ 140737488355328 := by omega
  clear h hn fs HF
  go_enter Try.func65, Try.ntmps65
  go_wp2_with fail
  go_loopw [8] (fun i wr => ∃ j : Nat, j ≤ es.length ∧ i = .int .i64 j ∧ Hid ((es.take j).any p = false) ∧ Nx w wr) (fun i _ => es.length - (intOf i).toNat)
  case atStart => exact ⟨0, by omega, rfl, show _ = _ by simp, Nx.refl _⟩
  case round =>
    obtain ⟨j, hj, rfl, HP, hx⟩ := hrel
    by_cases hlt : j < es.length
    · obtain ⟨b, o, c', u, e, hb, g0, g1, hr⟩ := step_at (HR.out.nx hx) j hlt
      injection e with e1 e2 e3
      subst e1
      have hlt' : (j : Int) < (es.length : Int) := by omega
      have hj0 : (0 : Int) ≤ (j : Int) := by omega
      have HT : Hid (es.take (j + 1) = es.take j ++ [es[j]]) := Lib.hid (List.take_succ_eq_append_getElem hlt)
      have HM : Hid (es[j] ∈ es) := Lib.hid (List.getElem_mem hlt)
      have HRA := Lib.hid hr.1
      have HX := Lib.hid hx
      clear hx
      generalize es[j] = a at *
      obtain ⟨op, l⟩ := a
      dsimp only at g0 HRA
      have HCE := Lib.hid (step_cells g0 g1)
      have HSZ := Lib.hid (stepsz (.int .u8 (op.toNat : Int)) u)
      clear g0 g1 hr e2 e3
      go_wp2_with (first | (refine wpList_load_at rfl 55 (.tmp 14) rfl b (o + j * 2) rfl #[.int .u8 (op.toNat : Int), u] _ HCE.out Try.underlying55 rfl HSZ.out ?_))
      refine (HC.out (op, l) u wr HRA.out).mono ?_
      rintro e w1 ⟨rfl, n1⟩
      have N1 := Lib.hid (HX.out.trans n1)
      clear n1
      have HPP : Hid ((es.take (j + 1)).any p = p (op, l)) := Lib.hid (by rw [HT.out, List.any_append, HP.out]; simp)
      have HAN : Hid (p (op, l) = true → es.any p = true) := Lib.hid fun hp => List.any_eq_true.2 ⟨_, HM.out, hp⟩
      generalize p (op, l) = pv at *
      rcases pv with _ | _
      · go_wp2_with fail
        go_roundw
        case rel => exact ⟨j + 1, by omega, by go_num, HPP, N1.out⟩
        case measure => simp [intOf]; omega
      · have HA : Hid (es.any p = true) := Lib.hid (HAN.out rfl)
        go_wp2_with fail
        go_ret
        exact ⟨_, rfl, show _ = _ by rw [HA.out]; simp, N1.out⟩
    · have hj' : j = es.length := by omega
      subst hj'
      rw [List.take_of_length_le (Nat.le_refl _)] at HP
      go_wp2_with fail
      go_ret
      exact ⟨-1, rfl, show _ = _ by rw [HP.out]; rfl, hx⟩
theorem scontains_any (f : FuncId) (p : Step → Bool) (hent : ∀ (args : Array Value) (w : World), (callFunc f args).run Try.prog w = .ok (.enter f args) w) (HF : ∀ (a : Step) (u : Value) (w : World), Rd w u a.2 → Calls Try.prog f #[.agg #[.int .u8 (a.1.toNat : Int), u]] w fun e w' => e = .returned (.bool (p a)) ∧ Nx w w')
    (v : Value) (es : List Step) (w : World) (h : RdE stepEl w v es) (hn : es.length ≤ 140737488355328) :
    Calls Try.prog 43 #[v, .func (.func f) #[] #[]] w fun e w' => e = .returned (.bool (es.any p)) ∧ Nx w w' := by
  have HI := Lib.hid (sindex_any f p hent HF v es w h hn)
  obtain ⟨A, c, fs, rfl, -, -, -, -⟩ := h.parts
  clear hent HF h hn fs
  go_enter Try.func43, Try.ntmps43
  go_wp2_with fail
  refine HI.out.mono ?_
  rintro e w1 ⟨r, rfl, HD, n1⟩
  have N1 := Lib.hid n1
  clear n1
  go_wp2_with fail
  go_ret
  exact ⟨by rw [← HD.out]; rfl, N1.out⟩
theorem pushes1_any (a : Step) (u : Value) (w : World) (h : Rd w u a.2) : Calls Try.prog 47 #[.agg #[.int .u8 (a.1.toNat : Int), u]] w fun e w' => e = .returned (.bool (!(a.1 == 1))) ∧ Nx w w' := by
  obtain ⟨op, l⟩ := a
  obtain ⟨A, c, rfl, -, -, -⟩ := h
  have R := Row.new w #[.int .u8 (op.toNat : Int), .slice A l.length c] 55 _ rfl
  have k0 := R.cell (i := 0) (v := .int .u8 (op.toNat : Int)) rfl
  have NW := Lib.hid ((Nx.refl w).alloc (.cells #[.int .u8 (op.toNat : Int), .slice A l.length c] 55))
  clear R
  by_cases ho : op = 1
  · subst ho
    have e1 : (((1 : UInt8).toNat : Int) != 1) = false := by decide
    go_enter Try.func47, Try.ntmps47
    go_wp2_with fail
    go_ret
    exact ⟨rfl, NW.out⟩
  · have e1 : ((op.toNat : Int) != 1) = true := by
      simp only [bne_iff_ne, ne_eq]
      intro e
      exact ho (UInt8.toNat_inj.1 (by show op.toNat = 1; omega))
    have HF : Hid ((!(op == 1)) = true) := Lib.hid (by rw [beq_false_of_ne ho]; rfl)
    clear ho
    go_enter Try.func47, Try.ntmps47
    go_wp2_with fail
    go_ret
    exact ⟨by rw [HF.out]; rfl, NW.out⟩
theorem ent_pushes1 (args : Array Value) (w : World) : (callFunc 47 args).run Try.prog w = .ok (.enter 47 args) w := by kernel_rfl
theorem ent_mayNot (args : Array Value) (w : World) : (callFunc 44 args).run Try.prog w = .ok (.enter 44 args) w := by kernel_rfl
theorem cpushes_any (v : Value) (es : List Step) (w : World) (h : RdE stepEl w v es) (hn : es.length ≤ 140737488355328) :
    Calls Try.prog 17 #[v] w fun e w' => e = .returned (.bool (pushS es)) ∧ Nx w w' := by
  have HI := Lib.hid (scontains_any 47 (fun a => !(a.1 == 1)) ent_pushes1 pushes1_any v es w h hn)
  have HV : Hid ((!(es.any fun a => !(a.1 == 1))) = pushS es) := Lib.hid (by unfold pushS; rw [List.not_any_eq_all_not]; simp)
  obtain ⟨A, c, fs, rfl, -, -, -, -⟩ := h.parts
  clear h hn fs
  generalize (es.any fun a => !(a.1 == 1)) = z at *
  go_enter Try.func17, Try.ntmps17
  go_wp2_with fail
  refine HI.out.mono ?_
  rintro e w1 ⟨rfl, n1⟩
  have N1 := Lib.hid n1
  clear n1
  go_wp2_with fail
  go_ret
  exact ⟨by rw [← HV.out]; rfl, N1.out⟩
end Go.Proofs.Ytbhoflmdhlchlaa
