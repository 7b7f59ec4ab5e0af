/- LAYER 11: Put of the program. -/
import Derived.Deep.DeepCutAuto
import Derived.Deep.RegionWith
import Derived.Test.YtbhoflmdhlchlaaStep4
namespace Go.Proofs.Ytbhoflmdhlchlaa
open Go Go.RowKit
set_option linter.unusedVariables false
set_option linter.unusedSimpArgs false
set_option linter.unusedVariables false
set_option linter.unusedSimpArgs false

def badS (a : Step) : Bool := !mayS a.1.toNat a.2.length
def allT (es : List Step) : List UInt8 := (es.map fun a => textS a.1 a.2).flatten
def bulkS (es : List Step) : Nat := (es.map fun a => a.2.length + 3).sum
def putEr (es : List Step) : Int := if es.any badS = true then 2 else if 200 < es.length then 3 else 0
def putBs (es : List Step) : List UInt8 := if putEr es = 0 then allT es else []
theorem textS_len (op : UInt8) (l : List UInt8) : (textS op l).length ≤ l.length + 3 := by
  unfold textS
  split
  · split
    · simp
    · simp; omega
  · simp
theorem allT_snoc (es : List Step) (a : Step) : allT (es ++ [a]) = allT es ++ textS a.1 a.2 := by simp [allT]
theorem allT_len (es : List Step) : (allT es).length ≤ bulkS es := by
  induction es with
  | nil => simp [allT, bulkS]
  | cons a r ih =>
    have h1 := textS_len a.1 a.2
    have e1 : allT (a :: r) = textS a.1 a.2 ++ allT r := by simp [allT]
    have e2 : bulkS (a :: r) = (a.2.length + 3) + bulkS r := by simp [bulkS]
    rw [e1, e2, List.length_append]
    omega
theorem bulkS_take (es : List Step) (j : Nat) : bulkS (es.take j) ≤ bulkS es := by
  induction es generalizing j with
  | nil => simp
  | cons a r ih =>
    cases j with
    | zero => simp [bulkS]
    | succ j =>
      have := ih j
      have e1 : bulkS ((a :: r).take (j + 1)) = (a.2.length + 3) + bulkS (r.take j) := by simp [bulkS]
      have e2 : bulkS (a :: r) = (a.2.length + 3) + bulkS r := by simp [bulkS]
      rw [e1, e2]
      omega
theorem mayS_len {n m : Nat} (h : mayS n m = true) : m ≤ 3000 := by
  unfold mayS at h
  split at h
  · exact of_decide_eq_true h
  · simp at h; omega
theorem stepone (a : Int) (A : Option Addr) (n c : Nat) : (#[.int .u8 a, .slice A n c] : Array Value).all (·.oneCell') = true := by kernel_rfl
theorem steprow (x u a b : Value) : (#[x, u] : Array Value).size = (#[a, b] : Array Value).size := rfl

set_option maxRecDepth 100000 in
set_option maxHeartbeats 2000000 in
theorem cput_any (v : Value) (es : List Step) (w : World) (h : RdE stepEl w v es) (hn : es.length ≤ 140737488355328) (hbk : bulkS es ≤ 10000000) :
    Calls Try.prog 14 #[v] w fun e w' => ∃ r, e = .returned (.tuple #[r, .int .i64 (putEr es)]) ∧ Own w.heap.size w' r (putBs es) ∧ Nx w w' := by
  have HR := Lib.hid h
  have HI := Lib.hid (scontains_any 44 badS ent_mayNot (fun a u w h => mayNot_any a.1.toNat u a.2 w h) v es w h hn)
  have HBK := Lib.hid hbk
  obtain ⟨A, c, fs, rfl, -, -, -, -⟩ := h.parts
  have hjb : (es.length : Int) ≤ 140737488355328 := by omega
  obtain ⟨ANY, hany⟩ : ∃ z, z = es.any badS := ⟨_, rfl⟩
  rw [← hany] at HI
  have HA := Lib.hid hany
  clear h hn hbk fs hany
  rcases ANY with _ | _
  · by_cases h2 : 200 < es.length
    · have g2 : (200 : Int) < (es.length : Int) := by omega
      have HPE : Hid (putEr es = 3) := Lib.hid (by unfold putEr; rw [← HA.out, if_neg (by simp), if_pos h2])
      have HPB : Hid (putBs es = []) := Lib.hid (by unfold putBs; rw [HPE.out]; rfl)
      clear h2
      go_enter Try.func14, Try.ntmps14
      go_wp2_with fail
      refine HI.out.mono ?_
      rintro e w1 ⟨rfl, n1⟩
      have N1 := Lib.hid n1
      clear n1
      go_wp2_with fail
      go_ret2
      exact ⟨_, by rw [HPE.out]; rfl, by rw [HPB.out]; exact Own.nil _ _, N1.out⟩
    have g2 : ¬ (200 : Int) < (es.length : Int) := by omega
    have H200 := Lib.hid h2
    clear h2
    go_enter Try.func14, Try.ntmps14
    go_wp2_with fail
    refine HI.out.mono ?_
    rintro e w1 ⟨rfl, n1⟩
    have NS := Lib.hid n1
    clear n1 HI
    go_wp2_with fail
    clear g2
    go_loopw [4, 17] (fun s i wr => ∃ (j : Nat) (ss : Value), j ≤ es.length ∧ i = .int .i64 j ∧ ss = s ∧ Own w.heap.size wr ss (allT (es.take j)) ∧ Hid ((es.take j).any badS = false) ∧ Nx w wr) (fun _ i _ => es.length - (intOf i).toNat)
    case atStart => exact ⟨0, _, by omega, rfl, rfl, by simpa [allT] using Own.nil _ _, show _ = _ by simp, NS.out⟩
    case round =>
      obtain ⟨j, s, hj, rfl, rfl, hown, HP, hx⟩ := hrel
      by_cases hlt : j < es.length
      · obtain ⟨b, o, c', u, e, hb, g0, g1, hr⟩ := step_at (HR.out.nx hx) j hlt
        injection e with e1 e2 e3
        subst e1
        have hlt' : (j : Int) < (es.length : Int) := by omega
        have hj0 : (0 : Int) ≤ (j : Int) := by omega
        have HT : Hid (es.take (j + 1) = es.take j ++ [es[j]]) := Lib.hid (List.take_succ_eq_append_getElem hlt)
        have HM : Hid (es[j] ∈ es) := Lib.hid (List.getElem_mem hlt)
        have HLB : Hid ((allT (es.take j)).length ≤ 10000000) := Lib.hid (Nat.le_trans (Nat.le_trans (allT_len _) (bulkS_take es j)) HBK.out)
        have HRA := Lib.hid hr.1
        obtain ⟨B9, d9, rfl⟩ := hr.sl
        have HX := Lib.hid hx
        generalize es[j] = a at *
        obtain ⟨op, l⟩ := a
        dsimp only at g0 g1 HRA hr
        have HCE := Lib.hid (step_cells g0 g1)
        have HSZ := Lib.hid (stepsz (.int .u8 (op.toNat : Int)) (.slice B9 l.length d9))
        have S1 : Nx wr ((wr.alloc (.cells #[.int .u8 0, .slice none 0 0] 55)).setRow wr.heap.size #[.int .u8 (op.toNat : Int), .slice B9 l.length d9]) := ((Nx.refl wr).alloc _).setRow _ (Nat.le_refl _)
        have Z1 := Row.new wr #[.int .u8 0, .slice none 0 0] 55 _ rfl
        have R1 := Z1.setRow #[.int .u8 (op.toNat : Int), .slice B9 l.length d9]
        have HOW := Lib.hid (hown.nx S1)
        have HRB := Lib.hid (HRA.out.nx S1)
        have NS1 := Lib.hid (HX.out.trans S1)
        have HMN := Lib.hid (fun w h => mayNot_any op.toNat (.slice B9 l.length d9) l w h)
        clear g0 g1 hr e2 e3 hx hown S1
        go_wp2_with (first | (refine wpList_load_at rfl 55 (.tmp 19) rfl b (o + j * 2) rfl #[.int .u8 (op.toNat : Int), .slice B9 l.length d9] _ HCE.out Try.underlying55 rfl HSZ.out ?_) | (refine wpList_store_row rfl 55 (.tmp 6) (.tmp 20) rfl wr.heap.size #[.int .u8 (op.toNat : Int), .slice B9 l.length d9] rfl rfl 55 #[.int .u8 0, .slice none 0 0] Z1 HSZ.out rfl (stepone _ _ _ _) ?_) | (refine wpList_load_row rfl 55 (.tmp 6) rfl wr.heap.size rfl 55 #[.int .u8 (op.toNat : Int), .slice B9 l.length d9] (0, 0) _ R1 Try.underlying55 rfl HSZ.out ?_))
        refine (HMN.out _ HRB.out).mono ?_
        rintro e w2 ⟨rfl, n2⟩
        have R2 := R1.nx n2
        have HOW2 := Lib.hid (HOW.out.nx n2)
        have HRC := Lib.hid (HRB.out.nx n2)
        have N2 := Lib.hid (NS1.out.trans n2)
        clear n2 R1 Z1 HCE
        rcases hms : mayS op.toNat l.length with _ | _
        · have HBD : Hid (badS (op, l) = true) := Lib.hid (by unfold badS; rw [hms]; rfl)
          clear hms
          have h1 := HA.out
          rw [List.any_eq_true.2 ⟨_, HM.out, HBD.out⟩] at h1
          cases h1
        · have HML := Lib.hid (mayS_len hms)
          have HBD : Hid (badS (op, l) = false) := Lib.hid (by unfold badS; rw [hms]; rfl)
          clear hms
          go_wp2_with (first | (refine wpList_load_row rfl 55 (.tmp 6) rfl wr.heap.size rfl 55 #[.int .u8 (op.toNat : Int), .slice B9 l.length d9] (0, 0) _ R2 Try.underlying55 rfl HSZ.out ?_))
          refine (text_any op (.slice B9 l.length d9) l _ HRC.out HML.out).mono ?_
          rintro e w3 ⟨vt, rfl, ot, n3⟩
          have HOW3 := Lib.hid (HOW2.out.nx n3)
          have N3 := Lib.hid (N2.out.trans n3)
          have HTX := Lib.hid ot.rd
          have HTL := Lib.hid (textS_len op l)
          clear n3 ot R2
          go_wp2_with (at_builtin; refine wpList_app rfl (.tmp 23) (.tmp 25) _ rfl Try.underlying23 info_u8 w.heap.size s vt (allT (es.take j)) (textS op l) rfl rfl HOW3.out HTX.out (by have := HLB.out; have := HTL.out; have := HML.out; omega) N3.out.size ?_; intro v' w' o' b' _)
          go_roundw
          case rel => exact ⟨j + 1, _, by omega, by go_num, rfl, by rw [HT.out, allT_snoc]; exact o', show _ = _ by rw [HT.out, List.any_append, HP.out]; simp [HBD.out], N3.out.app b'⟩
          case measure => simp [intOf]; omega
      · have hj' : j = es.length := by omega
        subst hj'
        rw [List.take_of_length_le (Nat.le_refl _)] at HP hown
        have HPE : Hid (putEr es = 0) := Lib.hid (by unfold putEr; rw [← HA.out, if_neg (by simp), if_neg H200.out])
        have HPB : Hid (putBs es = allT es) := Lib.hid (by unfold putBs; rw [HPE.out, if_pos rfl])
        go_wp2_with fail
        go_ret2
        exact ⟨_, by rw [HPE.out]; rfl, by rw [HPB.out]; exact hown, hx⟩
  · go_enter Try.func14, Try.ntmps14
    go_wp2_with fail
    refine HI.out.mono ?_
    rintro e w1 ⟨rfl, n1⟩
    have NS := Lib.hid n1
    clear n1 HI
    go_wp2_with fail
    go_loopw [4, 17] (fun s i wr => ∃ (j : Nat) (ss : Value), j ≤ es.length ∧ i = .int .i64 j ∧ ss = s ∧ Own w.heap.size wr ss (allT (es.take j)) ∧ Hid ((es.take j).any badS = false) ∧ Nx w wr) (fun _ i _ => es.length - (intOf i).toNat)
    case atStart => exact ⟨0, _, by omega, rfl, rfl, by simpa [allT] using Own.nil _ _, show _ = _ by simp, NS.out⟩
    case round =>
      obtain ⟨j, s, hj, rfl, rfl, hown, HP, hx⟩ := hrel
      by_cases hlt : j < es.length
      · obtain ⟨b, o, c', u, e, hb, g0, g1, hr⟩ := step_at (HR.out.nx hx) j hlt
        injection e with e1 e2 e3
        subst e1
        have hlt' : (j : Int) < (es.length : Int) := by omega
        have hj0 : (0 : Int) ≤ (j : Int) := by omega
        have HT : Hid (es.take (j + 1) = es.take j ++ [es[j]]) := Lib.hid (List.take_succ_eq_append_getElem hlt)
        have HM : Hid (es[j] ∈ es) := Lib.hid (List.getElem_mem hlt)
        have HLB : Hid ((allT (es.take j)).length ≤ 10000000) := Lib.hid (Nat.le_trans (Nat.le_trans (allT_len _) (bulkS_take es j)) HBK.out)
        have HRA := Lib.hid hr.1
        obtain ⟨B9, d9, rfl⟩ := hr.sl
        have HX := Lib.hid hx
        generalize es[j] = a at *
        obtain ⟨op, l⟩ := a
        dsimp only at g0 g1 HRA hr
        have HCE := Lib.hid (step_cells g0 g1)
        have HSZ := Lib.hid (stepsz (.int .u8 (op.toNat : Int)) (.slice B9 l.length d9))
        have S1 : Nx wr ((wr.alloc (.cells #[.int .u8 0, .slice none 0 0] 55)).setRow wr.heap.size #[.int .u8 (op.toNat : Int), .slice B9 l.length d9]) := ((Nx.refl wr).alloc _).setRow _ (Nat.le_refl _)
        have Z1 := Row.new wr #[.int .u8 0, .slice none 0 0] 55 _ rfl
        have R1 := Z1.setRow #[.int .u8 (op.toNat : Int), .slice B9 l.length d9]
        have HOW := Lib.hid (hown.nx S1)
        have HRB := Lib.hid (HRA.out.nx S1)
        have NS1 := Lib.hid (HX.out.trans S1)
        have HMN := Lib.hid (fun w h => mayNot_any op.toNat (.slice B9 l.length d9) l w h)
        clear g0 g1 hr e2 e3 hx hown S1
        go_wp2_with (first | (refine wpList_load_at rfl 55 (.tmp 19) rfl b (o + j * 2) rfl #[.int .u8 (op.toNat : Int), .slice B9 l.length d9] _ HCE.out Try.underlying55 rfl HSZ.out ?_) | (refine wpList_store_row rfl 55 (.tmp 6) (.tmp 20) rfl wr.heap.size #[.int .u8 (op.toNat : Int), .slice B9 l.length d9] rfl rfl 55 #[.int .u8 0, .slice none 0 0] Z1 HSZ.out rfl (stepone _ _ _ _) ?_) | (refine wpList_load_row rfl 55 (.tmp 6) rfl wr.heap.size rfl 55 #[.int .u8 (op.toNat : Int), .slice B9 l.length d9] (0, 0) _ R1 Try.underlying55 rfl HSZ.out ?_))
        refine (HMN.out _ HRB.out).mono ?_
        rintro e w2 ⟨rfl, n2⟩
        have R2 := R1.nx n2
        have HOW2 := Lib.hid (HOW.out.nx n2)
        have HRC := Lib.hid (HRB.out.nx n2)
        have N2 := Lib.hid (NS1.out.trans n2)
        clear n2 R1 Z1 HCE
        rcases hms : mayS op.toNat l.length with _ | _
        · have HBD : Hid (badS (op, l) = true) := Lib.hid (by unfold badS; rw [hms]; rfl)
          clear hms
          have HPE : Hid (putEr es = 2) := Lib.hid (by unfold putEr; rw [← HA.out, if_pos rfl])
          have HPB : Hid (putBs es = []) := Lib.hid (by unfold putBs; rw [HPE.out]; rfl)
          go_wp2_with fail
          go_ret2
          exact ⟨_, by rw [HPE.out]; rfl, by rw [HPB.out]; exact Own.nil _ _, N2.out⟩
        · have HML := Lib.hid (mayS_len hms)
          have HBD : Hid (badS (op, l) = false) := Lib.hid (by unfold badS; rw [hms]; rfl)
          clear hms
          go_wp2_with (first | (refine wpList_load_row rfl 55 (.tmp 6) rfl wr.heap.size rfl 55 #[.int .u8 (op.toNat : Int), .slice B9 l.length d9] (0, 0) _ R2 Try.underlying55 rfl HSZ.out ?_))
          refine (text_any op (.slice B9 l.length d9) l _ HRC.out HML.out).mono ?_
          rintro e w3 ⟨vt, rfl, ot, n3⟩
          have HOW3 := Lib.hid (HOW2.out.nx n3)
          have N3 := Lib.hid (N2.out.trans n3)
          have HTX := Lib.hid ot.rd
          have HTL := Lib.hid (textS_len op l)
          clear n3 ot R2
          go_wp2_with (at_builtin; refine wpList_app rfl (.tmp 23) (.tmp 25) _ rfl Try.underlying23 info_u8 w.heap.size s vt (allT (es.take j)) (textS op l) rfl rfl HOW3.out HTX.out (by have := HLB.out; have := HTL.out; have := HML.out; omega) N3.out.size ?_; intro v' w' o' b' _)
          go_roundw
          case rel => exact ⟨j + 1, _, by omega, by go_num, rfl, by rw [HT.out, allT_snoc]; exact o', show _ = _ by rw [HT.out, List.any_append, HP.out]; simp [HBD.out], N3.out.app b'⟩
          case measure => simp [intOf]; omega
      · have hj' : j = es.length := by omega
        subst hj'
        rw [List.take_of_length_le (Nat.le_refl _)] at HP
        have h1 := HA.out
        rw [HP.out] at h1
        cases h1
end Go.Proofs.Ytbhoflmdhlchlaa
