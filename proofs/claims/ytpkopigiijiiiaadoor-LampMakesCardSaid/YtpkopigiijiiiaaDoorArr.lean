/- OPENING AN ARRAY OF INTEGERS THAT CAME IN, and shutting it again, of our own. -/
import Derived.Test.YtpkopigiijiiiaaDoorTa
import Derived.DataShut
namespace Go.Proofs.YtpkopigiijiiiaaDoor
open Go.ChangeShapes Go.WideShapes Go.ChangeAt Go.RowKit
set_option linter.unusedVariables false
set_option linter.unusedSimpArgs false
section
variable {H : Type} {enc : TypeId × Value → H} {P : Program} {W : World} {base : Nat} {spare : Nat → Bool} {held : Bool}

theorem okWide_array {t e : TypeId} {n : Nat} {r : Reach} {v : Value} (ht : P.underlying t = some (.array n e)) (h : Value.okWide P W r base t v) : ∃ cs, v = .agg cs ∧ cs.size = P.cellsOf t := by
  simp only [Value.okWide, ht] at h
  obtain ⟨cs, h1, h2, _⟩ := h
  exact ⟨cs, h1, h2⟩
def litInts (k : IntKind) (zs : List Int) : List (DataW H) := zs.map fun z => .lit (.int k z)

theorem cells_ints {t e : TypeId} {n : Nat} {k : IntKind} (ht : P.underlying t = some (.array n e)) (he : P.underlying e = some (.int k)) (hce : P.cellsOf e = 1) (hct : P.cellsOf t = n)
    {fuel : Nat} {cs : List Value} {x : DataW H × List MemPlace} (h : DataW.trod enc P W base spare held fuel t cs = some x) :
    ∃ zs : List Int, zs.length = n ∧ cs = zs.map (Value.int k) ∧ x = (.agg (litInts k zs), []) ∧ ∀ z ∈ zs, (Lit.int k z).wf = true := by
  obtain ⟨xs, m, rfl, rfl, hl, hx, hg⟩ := DataW.trod_array ht h
  rw [hct] at hl
  have each : ∀ i (hi : i < n), ∃ z : Int, cs[i]'(by omega) = .int k z ∧ xs[i]'(by omega) = (.lit (.int k z), []) ∧ (Lit.int k z).wf = true := by
    intro i hi
    have g := hg i hi
    rw [hce, Nat.mul_one] at g
    have hd : (cs.drop i).take 1 = [cs[i]'(by omega)] := by
      rw [List.drop_eq_getElem_cons (by omega)]; rfl
    rw [hd, List.getElem?_eq_getElem (by omega)] at g
    obtain ⟨z, e1, e2, e3⟩ := DataW.trod_int he g
    refine ⟨z, by simpa using e1, e2, e3⟩
  obtain ⟨f, hf⟩ : ∃ f : Nat → Int, ∀ i (hi : i < n), cs[i]'(by omega) = .int k (f i) ∧ xs[i]'(by omega) = (.lit (.int k (f i)), []) ∧ (Lit.int k (f i)).wf = true := by
    refine ⟨fun i => if hi : i < n then (each i hi).choose else 0, fun i hi => ?_⟩
    have := (each i hi).choose_spec
    simp only [hi, dif_pos]
    exact this
  refine ⟨(List.range n).map f, by simp, ?_, ?_, ?_⟩
  · apply List.ext_getElem
    · simp [hl]
    · intro i h1 h2
      have := (hf i (by omega)).1
      simp [this]
  · have e1 : xs = (List.range n).map fun i => ((.lit (.int k (f i)) : DataW H), ([] : List MemPlace)) := by
      apply List.ext_getElem
      · simp [hx]
      · intro i h1 h2
        have := (hf i (by omega)).2.1
        simp [this]
    rw [e1]
    refine Prod.ext ?_ ?_
    · show DataW.agg _ = DataW.agg _
      congr 1
      simp [litInts, List.map_map, Function.comp_def]
    · simp [List.flatMap_eq_nil_iff]
  · intro z hz
    simp only [List.mem_map, List.mem_range] at hz
    obtain ⟨i, hi, rfl⟩ := hz
    exact (hf i hi).2.2

theorem trod_ints_mk {t e : TypeId} {n : Nat} {k : IntKind} (ht : P.underlying t = some (.array n e)) (he : P.underlying e = some (.int k)) (hce : P.cellsOf e = 1) (hct : P.cellsOf t = n)
    {fuel : Nat} (zs : List Int) (hz : zs.length = n) (hw : ∀ z ∈ zs, (Lit.int k z).wf = true) :
    DataW.trod enc P W base spare held (fuel + 2) t (zs.map (Value.int k)) = some (.agg (litInts k zs), []) := by
  unfold DataW.trod
  rw [ht]
  have hp : (List.range n).mapM (fun i => DataW.trod enc P W base spare held (fuel + 1) e (((zs.map (Value.int k)).drop (i * P.cellsOf e)).take (P.cellsOf e))) = some (zs.map fun z => ((.lit (.int k z) : DataW H), ([] : List MemPlace))) := by
    refine mapM_some_of_get _ _ (by simp [hz]) fun i x hi => ?_
    obtain ⟨hi1, hi2⟩ := List.getElem?_eq_some_iff.1 hi
    simp at hi1 hi2
    subst hi2
    rw [hce, Nat.mul_one]
    have hd : ((zs.map (Value.int k)).drop i).take 1 = [.int k (zs[i]'(by omega))] := by
      rw [List.drop_eq_getElem_cons (by simp; omega)]; simp
    rw [hd]
    have h1 : DataW.trod enc P W base spare held (fuel + 1) e [.int k (zs[i]'(by omega))] = some (.lit (.int k (zs[i]'(by omega))), []) := by
      simp [DataW.trod, he, hw _ (List.getElem_mem _)]
    rw [h1, List.getElem?_map, List.getElem?_eq_getElem (by omega)]
    rfl
  have hl : (zs.map (Value.int k)).length = P.cellsOf t := by simp [hz, hct]
  simp only [hl, hp]
  simp [litInts, List.flatMap_eq_nil_iff, Function.comp_def]

theorem open_arr {t e : TypeId} {n : Nat} {k : IntKind} (ht : P.underlying t = some (.array n e)) (he : P.underlying e = some (.int k)) (hce : P.cellsOf e = 1) (hct : P.cellsOf t = n)
    {r : Reach} {b0 : Nat} {v : Value} {d : DataW H} {ps : List MemPlace} (hval : Value.okWide P W r b0 t v) (hd : DataW.Trod enc P W base spare held t v d ps) :
    ∃ zs : List Int, zs.length = n ∧ v = .agg (ints k zs) ∧ d = .agg (litInts k zs) ∧ ps = [] ∧ ∀ z ∈ zs, (Lit.int k z).wf = true := by
  obtain ⟨cs, rfl, hs⟩ := okWide_array ht hval
  obtain ⟨fuel, hf⟩ := hd
  obtain ⟨zs, h1, h2, h3, h4⟩ := cells_ints ht he hce hct hf
  simp [Value.cells] at h2
  simp only [Prod.mk.injEq] at h3
  exact ⟨zs, h1, by unfold ints; rw [← h2], h3.1, h3.2, h4⟩
theorem shut_arr {t e : TypeId} {n : Nat} {k : IntKind} (ht : P.underlying t = some (.array n e)) (he : P.underlying e = some (.int k)) (hce : P.cellsOf e = 1) (hct : P.cellsOf t = n)
    (zs : List Int) (hz : zs.length = n) (hw : ∀ z ∈ zs, (Lit.int k z).wf = true) : DataW.Trod enc P W base spare held t (.agg (ints k zs)) (.agg (litInts k zs)) [] := by
  refine ⟨2, ?_⟩
  have := trod_ints_mk (enc := enc) (W := W) (base := base) (spare := spare) (held := held) (fuel := 0) ht he hce hct zs hz hw
  simpa [Value.cells, ints] using this
end
end Go.Proofs.YtpkopigiijiiiaaDoor
