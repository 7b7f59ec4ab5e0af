/- LAYER 7: a transaction without its unlocks. -/
import Derived.WalkSpells
import Derived.Test.YtnbonmkecmgphaaDoorTx19
import Derived.Test.YtnbonmkecmgphaaDoorTxP
namespace Go.Proofs.YtnbonmkecmgphaaDoor
open Go Go.RowKit
set_option linter.unusedVariables false
set_option linter.unusedSimpArgs false
set_option linter.unusedVariables false
set_option linter.unusedSimpArgs false

def bareI (i : Inp) : Inp := ⟨i.x, i.n, i.h, []⟩
def bare (t : Txn) : Txn := ⟨t.ins.map bareI, t.outs, t.after⟩
theorem bareI_ok {i : Inp} (h : InOk i) : InOk (bareI i) := h
theorem insB_bare_le (l : List Inp) : (insB (l.map bareI)).length ≤ (insB l).length := by
  induction l with
  | nil => simp
  | cons a r ih =>
    have e1 : insB ((a :: r).map bareI) = inB (bareI a) ++ insB (r.map bareI) := by simp [insB]
    have e2 : insB (a :: r) = inB a ++ insB r := by simp [insB]
    have h0 : behind 0 = 0 := by unfold behind; rw [if_pos (by decide)]
    have h1 : (inB (bareI a)).length ≤ (inB a).length := by
      unfold inB rowL bareI
      simp only [List.length_append, countL_length, List.length_nil, h0]
      omega
    rw [e1, e2, List.length_append, List.length_append]
    omega
theorem txB_bare_le (t : Txn) : (txB (bare t)).length ≤ (txB t).length := by
  have h := insB_bare_le t.ins
  unfold txB midB preB bare
  simp only [List.length_append, List.length_map]
  omega
theorem mayT_bare {t : Txn} (h : mayT t = true) : mayT (bare t) = true := by
  obtain ⟨h1, h2, h3, h4, h5⟩ := mayT_parts h
  refine mayT_of (by simpa [bare] using h1) h2 (fun i hi => ?_) h4 (Nat.le_trans (txB_bare_le t) h5)
  obtain ⟨a, -, rfl⟩ := List.mem_map.1 (by simpa [bare] using hi)
  exact Nat.zero_le _
/-- The cells of inputs, of the first ones without unlocks. -/
def stripF (fs : List Value) : Nat → List Value
  | 0 => fs
  | j + 1 => (stripF fs j).set (j * 35 + 34) (.slice none 0 0)
theorem stripF_length (fs : List Value) (j : Nat) : (stripF fs j).length = fs.length := by
  induction j with
  | zero => rfl
  | succ j ih => simp [stripF, ih]
theorem stripF_one (fs : List Value) (h : ∀ u ∈ fs, u.oneCell' = true) (j : Nat) : ∀ u ∈ stripF fs j, u.oneCell' = true := by
  induction j with
  | zero => exact h
  | succ j ih =>
    intro u hu
    rcases List.mem_or_eq_of_mem_set hu with h1 | rfl
    · exact ih u h1
    · rfl
theorem cut_set_same (fs : List Value) (j : Nat) (x : Value) : inEl.cut (fs.set (j * 35 + 34) x) j = (inEl.cut fs j).set 34 x := by
  show ((fs.set (j * 35 + 34) x).drop (j * 35)).take 35 = ((fs.drop (j * 35)).take 35).set 34 x
  rw [List.drop_set, if_neg (by omega), List.take_set]
  congr 1
  omega
theorem cut_set_other (fs : List Value) (i j : Nat) (x : Value) (h : i ≠ j) : inEl.cut (fs.set (j * 35 + 34) x) i = inEl.cut fs i := by
  show ((fs.set (j * 35 + 34) x).drop (i * 35)).take 35 = (fs.drop (i * 35)).take 35
  rw [List.drop_set]
  split
  · rfl
  · rw [List.take_set, List.set_eq_of_length_le]
    rw [List.length_take]
    omega
theorem cut_stripF (fs : List Value) (j i : Nat) : inEl.cut (stripF fs j) i = if i < j then (inEl.cut fs i).set 34 (.slice none 0 0) else inEl.cut fs i := by
  induction j with
  | zero => simp [stripF]
  | succ j ih =>
    by_cases h : i = j
    · subst h
      rw [stripF, cut_set_same, ih, if_neg (Nat.lt_irrefl _), if_pos (Nat.lt_succ_self _)]
    · rw [stripF, cut_set_other _ _ _ _ h, ih]
      by_cases h2 : i < j
      · rw [if_pos h2, if_pos (by omega)]
      · rw [if_neg h2, if_neg (by omega)]
theorem icl_bare (i : Inp) (u : Value) (h : InOk i) : (icl i u).set 34 (.slice none 0 0) = icl (bareI i) (.slice none 0 0) := by
  unfold icl
  have hl : (pcl i.x i.n i.h).length = 34 := by simp [pcl, bvs, h.1]
  rw [List.set_append_right _ _ (by omega), hl]
  rfl
theorem allE_bare {w W : World} {fs : List Value} {es : List Inp} (h : AllE inEl none w fs es) : AllE inEl none W (stripF fs es.length) (es.map bareI) := by
  refine ⟨by rw [stripF_length, List.length_map]; exact h.1, fun j hj => ?_⟩
  rw [List.length_map] at hj
  obtain ⟨u, hu, hok, -⟩ := h.2 j hj
  rw [cut_stripF, if_pos hj, hu, List.getElem_map, icl_bare _ _ hok]
  exact ⟨_, rfl, hok, Rd.nil W, fun hp => by simp [bareI] at hp⟩
theorem ownF_sl {E : TypeId} {k B : Nat} {w : World} {v : Value} {n : Nat} {fs : List Value} (h : OwnF E k B w v n fs) : ∃ A c, v = .slice A n c := by
  rcases h.2 with ⟨rfl, rfl⟩ | ⟨_, _, _, rfl, _⟩
  · exact ⟨_, _, rfl⟩
  · exact ⟨_, _, rfl⟩
theorem ownF_set {E : TypeId} {k B : Nat} {w : World} {g c n : Nat} {full : List Value} (R : Row w g full.toArray E) (hB : B ≤ g) (h1 : full.length = c * k) (h2 : n ≤ c) (h3 : c ≤ maxLen) (p : Nat) (x : Value) (hf : (full.take (n * k)).length = n * k) :
    OwnF E k B (w.setCell ⟨g, p, none⟩ x) (.slice (some ⟨g, 0, none⟩) n c) n ((full.take (n * k)).set p x) := by
  refine ⟨by rw [List.length_set]; exact hf, .inr ⟨g, c, full.set p x, rfl, hB, ?_, by rw [List.length_set]; exact h1, h2, h3, by rw [List.take_set]⟩⟩
  have := R.set p x
  unfold Row at this
  rw [this, List.setIfInBounds_toArray]
set_option maxRecDepth 100000 in
set_option maxHeartbeats 4000000 in
theorem clone_any (v : Value) (n : Nat) (fs : List Value) (w : World) (h : RdF 35 w v n fs) (hn : n ≤ 16) :
    Calls Tryd.prog 78 #[v] w fun e w' => ∃ v', e = .returned v' ∧ OwnF 55 35 w.heap.size w' v' n fs ∧ Nx w w' := by
  have H := Lib.hid h
  obtain ⟨hl, hone, A, c, rfl, h1, h2, h3⟩ := h
  rcases A with _ | ad
  · have h0 : n = 0 := by
      rcases Nat.eq_zero_or_pos n with h | h
      · exact h
      · obtain ⟨_, _, e, _⟩ := h3 h; cases e
    subst h0
    have hf : fs = [] := List.eq_nil_of_length_eq_zero (by simpa using hl)
    subst hf
    have hq : ∀ w, (binOp .eql 22 (.slice none 0 c) (.slice none 0 0)).run Tryd.prog w = .ok (.bool true) w := fun w => Lib.run_eql_slice_nil w 22 55 none 0 c 0 0 Tryd.underlying22
    clear h1 h2 h3 hone hl
    go_enter Tryd.func78, Tryd.ntmps78
    go_wp2_with fail
    go_ret
    exact ⟨_, rfl, OwnF.nil _ _ _ _, Nx.refl _⟩
  · have hq : ∀ w, (binOp .eql 22 (.slice (some ad) n c) (.slice none 0 0)).run Tryd.prog w = .ok (.bool false) w := fun w => Lib.run_eql_slice_nil w 22 55 (some ad) n c 0 0 Tryd.underlying22
    have hb : ∀ w, (Instr.buildSlice 22 0 #[]).run Tryd.prog w = .ok (.slice (some ⟨w.heap.size, 0, none⟩) 0 0) (w.alloc (.cells #[] 55)) := fun _ => by kernel_rfl
    have N1 := (Nx.refl w).alloc (.cells #[] 55)
    have HO : Hid (OwnF 55 35 w.heap.size (w.alloc (.cells #[] 55)) (.slice (some ⟨w.heap.size, 0, none⟩) 0 0) 0 []) := Lib.hid ⟨by simp, .inr ⟨w.heap.size, 0, [], rfl, Nat.le_refl _, heap_alloc_new w _, by simp, Nat.le_refl _, by simp [maxLen], by simp⟩⟩
    have HR := Lib.hid (H.out.nx N1)
    have HSZ := Lib.hid N1.size
    have HNN := Lib.hid N1
    have HN := Lib.hid hn
    clear h1 h2 h3 hone hl N1 hn
    go_enter Tryd.func78, Tryd.ntmps78
    go_wp2_with (at_builtin; refine wpList_appF rfl (.tmp 5) (.tmp 6) 22 rfl 55 (.agg (icel inZ (.slice none 0 0))) 35 64 Tryd.underlying22 info_in3 inzsz (by decide) w.heap.size (.slice (some ⟨w.heap.size, 0, none⟩) 0 0) (.slice (some ad) n c) 0 n [] fs rfl rfl HO.out HR.out (by have := HN.out; omega) (by have := HN.out; simp [maxLen]; omega) HSZ.out ?_)
    intro v' w' o' b' _ _
    have O := Lib.hid o'
    have N := Lib.hid (HNN.out.app b')
    obtain ⟨A', c', rfl⟩ := ownF_sl o'
    clear o' b'
    go_wp2_with fail
    go_ret
    exact ⟨_, rfl, O.out, N.out⟩
end Go.Proofs.YtnbonmkecmgphaaDoor
