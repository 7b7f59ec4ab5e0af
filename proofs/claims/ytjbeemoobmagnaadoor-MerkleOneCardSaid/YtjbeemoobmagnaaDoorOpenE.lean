/- OPENING A SLICE OF ELEMENTS THAT ARE TOLD BY A RULE, of our own. -/
import Derived.Test.YtjbeemoobmagnaaDoorEl2
import Derived.Test.YtjbeemoobmagnaaDoorGc
namespace Go.Proofs.YtjbeemoobmagnaaDoor
open Go Go.ChangeShapes Go.WideShapes Go.ChangeAt Go.RowKit
set_option linter.unusedVariables false
set_option linter.unusedSimpArgs false
set_option linter.unusedVariables false
set_option linter.unusedSimpArgs false

section
variable {H : Type} {enc : TypeId × Value → H} {P : Program} {W : World} {base : Nat} {α : Type}
theorem flat_get {css : List (List Value)} {k : Nat} (h : ∀ c ∈ css, c.length = k) : css.flatten.length = css.length * k ∧ ∀ j (hj : j < css.length), (css.flatten.drop (j * k)).take k = css[j] := by
  induction css with
  | nil => exact ⟨by simp, fun j hj => by simp at hj⟩
  | cons c r ih =>
    obtain ⟨i1, i2⟩ := ih fun x hx => h x (List.mem_cons_of_mem _ hx)
    have hc := h c (List.mem_cons_self ..)
    refine ⟨by rw [List.flatten_cons, List.length_append, i1, hc, List.length_cons, Nat.add_mul]; omega, fun j hj => ?_⟩
    cases j with
    | zero => rw [Nat.zero_mul, List.drop_zero, List.flatten_cons, List.take_left' hc]; rfl
    | succ j =>
      rw [List.flatten_cons, Nat.add_mul, Nat.one_mul, List.drop_append, List.drop_of_length_le (by omega), List.nil_append, show j * k + k - c.length = j * k by omega, List.getElem_cons_succ]
      exact i2 j (by simpa using hj)
theorem open_els_cells (L : El α) (Good : α → Prop) {t : TypeId} (ht : P.underlying t = some (.slice L.E)) (hcb : P.cellsOf L.E = L.k)
    (hel : ∀ n cs y, DataW.trod enc P W base (fun _ => true) true n L.E cs = some y → (∀ q ∈ y.1.weights P L.E, q ≤ reachBytes) → ∃ a, L.rd none W cs a ∧ Good a)
    {fuel : Nat} {cs : List Value} {y : DataW H × List MemPlace} (hf : DataW.trod enc P W base (fun _ => true) true fuel t cs = some y) (hs : ∀ n ∈ y.1.weights P t, n ≤ reachBytes) :
    ∃ (A : Option Addr) (n c : Nat) (es : List α), cs = [.slice A n c] ∧ n = es.length ∧ RdE L W (.slice A n c) es ∧ ∀ a ∈ es, Good a := by
  rcases Go.Deep.open_slice ht hf with ⟨hcs, hx⟩ | ⟨a, len, cap, m, n, D, Pl, hcs, _, hl, hm, hmm, hx, hcell⟩
  · subst hcs
    exact ⟨none, 0, 0, [], rfl, rfl, RdE.nil W, by simp⟩
  · subst hcs
    simp only [if_true] at hmm
    have each : ∀ i, i < len → ∃ z : List Value × Option α, ∃ e, z.2 = some e ∧ (∀ q, q < L.k → W.cell? ((a.add (i * L.k)).add q) = z.1[q]?) ∧ L.rd none W z.1 e ∧ Good e := fun i hi => by
      obtain ⟨cs', g1, g2⟩ := hcell i (by omega)
      rw [hcb] at g1
      obtain ⟨_, hlen, hcc⟩ := World.cells?_some g1
      obtain ⟨e, e1, e2⟩ := hel n cs' _ g2 (fun q hq => hs q (by
        rw [hx]
        simp only [DataW.weights, ht, List.mem_cons, List.mem_append]
        exact .inr (.inl (weightsAll_in (List.mem_map.2 ⟨i, List.mem_range.2 hi, rfl⟩) q hq))))
      exact ⟨(cs', some e), e, rfl, hcc, e1, e2⟩
    obtain ⟨Y, hY⟩ := Go.Deep.choose_lt each
    have hY2 : ∀ i, i < len → (Y i).2.isSome = true := fun i hi => by obtain ⟨e, h1, _⟩ := hY i hi; rw [h1]; rfl
    obtain ⟨es, hes, hesl⟩ : ∃ es : List α, es.length = len ∧ ∀ i (h : i < es.length), (Y i).2 = some es[i] := by
      refine ⟨(List.range len).pmap (fun i hi => (Y i).2.get (hY2 i hi)) (fun i hi => List.mem_range.1 hi), by simp, fun i h => ?_⟩
      simp
    have hr : ∀ i (h : i < es.length), L.rd none W (Y i).1 es[i] ∧ Good es[i] ∧ ∀ q, q < L.k → W.cell? ((a.add (i * L.k)).add q) = (Y i).1[q]? := fun i h => by
      obtain ⟨e, h1, h2, h3, h4⟩ := hY i (by omega)
      have := hesl i h
      rw [h1] at this
      injection this with this
      subst this
      exact ⟨h3, h4, h2⟩
    have hk : ∀ c ∈ (List.range len).map (fun i => (Y i).1), c.length = L.k := fun c hc => by
      obtain ⟨i, hi, rfl⟩ := List.mem_map.1 hc
      exact L.len (hr i (by rw [hes]; exact List.mem_range.1 hi)).1
    obtain ⟨f1, f2⟩ := flat_get hk
    rw [List.length_map, List.length_range] at f1
    have hall : AllE L none W ((List.range len).map (fun i => (Y i).1)).flatten es := by
      refine ⟨by rw [f1, hes], fun j hj => ?_⟩
      have := f2 j (by rw [List.length_map, List.length_range]; omega)
      show L.rd none W (((List.range len).map (fun i => (Y i).1)).flatten.drop (j * L.k) |>.take L.k) es[j]
      rw [this, List.getElem_map, List.getElem_range]
      exact (hr j hj).1
    refine ⟨some a, len, cap, es, rfl, hes.symm, ⟨_, ⟨by rw [f1, hes], hall.one, some a, cap, by rw [hes], by rw [hes]; exact hl, hm, fun hp => ?_⟩, hall⟩, fun e he => ?_⟩
    · have hp' : 0 < len := by omega
      have hkp := L.pos
      have hc0 := (hr 0 (by omega)).2.2 0 hkp
      have hl0 := L.len (hr 0 (by omega)).1
      rw [List.getElem?_eq_getElem (by omega)] at hc0
      obtain ⟨b, o, sp⟩ := a
      have hsp : sp = none := by simpa [Addr.add] using World.cell?_spot hc0
      subst hsp
      refine ⟨b, o, rfl, ?_, fun j hj => ?_⟩
      · have := World.block_lt_of_cell? W _ hc0
        simpa [Addr.add] using this
      · rw [f1] at hj
        have hji : j / L.k < len := by rw [Nat.div_lt_iff_lt_mul hkp]; exact hj
        have h1 := Nat.div_add_mod j L.k
        have h2 := Nat.mod_lt j hkp
        have hcj := (hr (j / L.k) (by omega)).2.2 (j % L.k) h2
        rw [addr_add, addr_add, Nat.add_assoc, Nat.mul_comm, h1] at hcj
        rw [hcj]
        have g := f2 (j / L.k) (by rw [List.length_map, List.length_range]; exact hji)
        rw [List.getElem_map, List.getElem_range] at g
        rw [← g, List.getElem?_take_of_lt h2, List.getElem?_drop, Nat.mul_comm, h1, List.getElem?_eq_getElem (by rw [f1]; exact hj)]
    · obtain ⟨j, hj, rfl⟩ := List.getElem_of_mem he
      exact (hr j hj).2.1
theorem open_els (L : El α) (Good : α → Prop) {ts : List TypeId} {ds : List (DataW H)} {j : Nat} {t : TypeId} {v : Value} {d : DataW H} {p : List MemPlace} {b0 : Nat} {r : Reach} (ht : P.underlying t = some (.slice L.E)) (hcb : P.cellsOf L.E = L.k)
    (hel : ∀ n cs y, DataW.trod enc P W base (fun _ => true) true n L.E cs = some y → (∀ q ∈ y.1.weights P L.E, q ≤ reachBytes) → ∃ a, L.rd none W cs a ∧ Good a)
    (hv : Value.okWide P W r b0 t v) (h : DataW.Trod enc P W base (fun _ => true) true t v d p)
    (hsz : (DataW.weightsEach P ts ds).all (· ≤ reachBytes) = true) (hts : ts[j]? = some t) (hds : ds[j]? = some d) :
    ∃ es : List α, RdE L W v es ∧ ∀ a ∈ es, Good a := by
  obtain ⟨a0, len0, cap0, rfl⟩ := okWide_slice ht hv
  obtain ⟨fuel, hf⟩ := h
  obtain ⟨A, n, c, es, e1, e2, e3, e4⟩ := open_els_cells L Good ht hcb hel hf (sized_top hsz hts hds)
  simp [Value.cells] at e1
  obtain ⟨rfl, rfl, rfl⟩ := e1
  exact ⟨es, e3, e4⟩
end
end Go.Proofs.YtjbeemoobmagnaaDoor
