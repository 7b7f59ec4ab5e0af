/- A REGION THAT DRAWS ITS ORDER, BY WHAT HOLDS OF THE OPERATIONS THAT HAVE BEEN CARRIED OUT, of our own: one obligation for each operation, whatever the order. -/
import Derived.RegionTactic
namespace Go.Proofs.Ytbhoflmdhlchlaa
open Go

section
variable {P : Program} {ops : Array Oper} {Q : Exit → Act → World → Prop} {md : Region.Mode}

/-- What each operation waits for. -/
def needsOf (md : Region.Mode) (ops : Array Oper) : List (List Nat) := ops.toList.map fun o => (o.after.toList.filter fun e => Region.binds md e).map (·.on)

theorem ready_needs {listed : Array Bool} {i : Nat} (h : i ∈ Region.ready md ops listed) : i < ops.size ∧ listed.getD i true = false ∧ ∀ d ∈ (needsOf md ops).getD i [], listed.getD d false = true := by
  unfold Region.ready at h
  rw [List.mem_filter, List.mem_range] at h
  obtain ⟨hi, hb⟩ := h
  rw [Bool.and_eq_true, Bool.not_eq_true'] at hb
  obtain ⟨h1, h2⟩ := hb
  refine ⟨hi, h1, ?_⟩
  have ho : ops[i]? = some ops[i] := by simp [hi]
  rw [ho] at h2
  simp only [Option.map_some, Option.getD_some] at h2
  intro d hd
  have hn : (needsOf md ops).getD i [] = (ops[i].after.toList.filter fun e => Region.binds md e).map (·.on) := by
    unfold needsOf
    rw [List.getD_eq_getElem?_getD, List.getElem?_map, Array.getElem?_toList, ho]
    rfl
  rw [hn, List.mem_map] at hd
  obtain ⟨e, he, rfl⟩ := hd
  rw [List.mem_filter] at he
  rw [Array.all_eq_true'] at h2
  have := h2 e (by simpa using he.1)
  rw [Bool.or_eq_true, Bool.not_eq_true'] at this
  rcases this with h | h
  · rw [he.2] at h; cases h
  · exact h

theorem ready_nil {listed : Array Bool} (hl : listed.size = ops.size) (hord : ∀ i, ∀ d ∈ (needsOf md ops).getD i [], d < i) (h : Region.ready md ops listed = []) : ∀ i, i < ops.size → listed.getD i false = true := by
  intro i
  induction i using Nat.strongRecOn with
  | _ i ih =>
    intro hi
    by_cases hc : listed.getD i false = true
    · exact hc
    · exfalso
      have hf : listed.getD i true = false := by
        rw [Array.getD_eq_getD_getElem?] at hc ⊢
        have : listed[i]? = some listed[i] := by simp [hl, hi]
        rw [this] at hc ⊢
        simpa using hc
      have ho : ops[i]? = some ops[i] := by simp [hi]
      have hm : i ∈ Region.ready md ops listed := by
        unfold Region.ready
        rw [List.mem_filter, List.mem_range]
        refine ⟨hi, ?_⟩
        rw [hf, ho]
        simp only [Bool.not_false, Bool.true_and, Option.map_some, Option.getD_some]
        rw [Array.all_eq_true']
        intro e he
        by_cases hb : Region.binds md e = true
        · have hd : e.on ∈ (needsOf md ops).getD i [] := by
            unfold needsOf
            rw [List.getD_eq_getElem?_getD, List.getElem?_map, Array.getElem?_toList, ho]
            simp only [Option.map_some, Option.getD_some, List.mem_map, List.mem_filter]
            exact ⟨e, ⟨by simpa using he, hb⟩, rfl⟩
          have hlt := hord i _ hd
          rw [ih _ hlt (by omega), Bool.or_true]
        · simp only [Bool.not_eq_true] at hb
          rw [hb]; rfl
      rw [h] at hm
      cases hm

/-- How many are not carried out yet. -/
def left (listed : Array Bool) : Nat := listed.toList.count false
theorem left_set {listed : Array Bool} {i : Nat} (h : listed.getD i true = false) : left (listed.setIfInBounds i true) + 1 = left listed := by
  have hi : i < listed.size := by
    rw [Array.getD_eq_getD_getElem?] at h
    by_cases hi : i < listed.size
    · exact hi
    · rw [Array.getElem?_eq_none (by omega)] at h; cases h
  have hv : listed.toList[i]'(by simpa using hi) = false := by
    rw [Array.getD_eq_getD_getElem?] at h
    simpa [hi] using h
  unfold left
  rw [Array.toList_setIfInBounds, List.count_set (by simpa using hi), hv]
  have hp : 0 < listed.toList.count false := List.count_pos_iff.2 (hv ▸ List.getElem_mem _)
  have e1 : (false == false) = true := rfl
  have e2 : (true == false) = false := rfl
  rw [e1, e2]
  simp only [if_true, Bool.false_eq_true, if_false]
  omega
theorem getD_set {listed : Array Bool} {i : Nat} (hi : i < listed.size) (j : Nat) : (listed.setIfInBounds i true).getD j false = (j == i || listed.getD j false) := by
  rw [Array.getD_eq_getD_getElem?, Array.getD_eq_getD_getElem?, Array.getElem?_setIfInBounds]
  by_cases h : i = j
  · subst h; simp [hi]
  · rw [if_neg h]
    have : (j == i) = false := by rw [beq_eq_false_iff_ne]; exact fun e => h e.symm
    rw [this, Bool.false_or]

theorem wpAny_inv {needs : List (List Nat)} (hn : needsOf md ops = needs) (hord : ∀ i, ∀ d ∈ needs.getD i [], d < i) (I : (Nat → Bool) → Act → World → Prop)
    (hstep : ∀ L a w, I L a w → ∀ i, i < ops.size → L i = false → (∀ d ∈ needs.getD i [], L d = true) → ∀ K : Act → World → Prop, (∀ a w, I (fun j => j == i || L j) a w → K a w) → wpOp P ops Q i K a w)
    (hend : ∀ L a w, I L a w → (∀ i, i < ops.size → L i = true) → Q .normal a w) :
    ∀ fuel (listed : Array Bool) a w, listed.size = ops.size → left listed ≤ fuel → I (fun j => listed.getD j false) a w → wpAny P md ops Q fuel listed a w := by
  subst hn
  intro fuel
  induction fuel with
  | zero =>
    intro listed a w hl hf hI
    have hr : Region.ready md ops listed = [] := by
      cases h : Region.ready md ops listed with
      | nil => rfl
      | cons x xs =>
        have hx := (ready_needs (h ▸ List.mem_cons_self : x ∈ Region.ready md ops listed)).2.1
        have := left_set hx
        omega
    exact ⟨hr, hend _ _ _ hI (ready_nil hl hord hr)⟩
  | succ fuel ih =>
    intro listed a w hl hf hI
    refine ⟨fun hr => hend _ _ _ hI (ready_nil hl hord hr), fun i hi => ?_⟩
    obtain ⟨h1, h2, h3⟩ := ready_needs hi
    have hs := left_set h2
    refine hstep _ a w hI i h1 ?_ h3 _ fun a' w' hI' => ih _ a' w' (by simp [hl]) (by omega) ?_
    · rw [Array.getD_eq_getD_getElem?] at h2 ⊢
      have : listed[i]? = some listed[i] := by simp [hl, h1]
      rw [this] at h2 ⊢
      exact h2
    · have e : (fun j => (listed.setIfInBounds i true).getD j false) = fun j => j == i || listed.getD j false := funext fun j => getD_set (by omega) j
      rw [e]; exact hI'

theorem hord_of {needs : List (List Nat)} (h : ((List.range needs.length).all fun i => (needs.getD i []).all fun d => decide (d < i)) = true) : ∀ i, ∀ d ∈ needs.getD i [], d < i := by
  intro i d hd
  by_cases hi : i < needs.length
  · rw [List.all_eq_true] at h
    have h1 := h i (List.mem_range.2 hi)
    rw [List.all_eq_true] at h1
    exact of_decide_eq_true (h1 d hd)
  · rw [List.getD_eq_getElem?_getD, List.getElem?_eq_none (by omega)] at hd
    cases hd

/-- The region, by what holds. -/
theorem wp_region_inv {id : Nat} {a : Act} {w : World} (needs : List (List Nat)) (I : (Nat → Bool) → Act → World → Prop) (hm : P.follows .mixedOrders = true) (hn : needsOf .any ops = needs) (hord : ∀ i, ∀ d ∈ needs.getD i [], d < i)
    (h0 : I (fun _ => false) a w.drew)
    (hstep : ∀ L a w, I L a w → ∀ i, i < ops.size → L i = false → (∀ d ∈ needs.getD i [], L d = true) → ∀ K : Act → World → Prop, (∀ a w, I (fun j => j == i || L j) a w → K a w) → wpOp P ops Q i K a w)
    (hend : ∀ L a w, I L a w → (∀ i, i < ops.size → L i = true) → Q .normal a w) : (Code.region id ops true).wp P Q a w := by
  refine wp_region_any hm (wpAny_inv hn hord I hstep hend _ _ _ _ (by simp) ?_ ?_)
  · unfold left
    rw [Array.toList_replicate]
    exact Nat.le_trans (List.count_le_length) (by simp)
  · have e : (fun j => (Array.replicate ops.size false).getD j false) = fun _ => false := by
      funext j
      rw [Array.getD_eq_getD_getElem?, Array.getElem?_replicate]
      split <;> rfl
    rw [e]; exact h0
end
end Go.Proofs.Ytbhoflmdhlchlaa
