/- OPENING A SLICE OF ELEMENTS, WITH A BOUND ON THEIR BULK, of our own. -/
import Derived.Test.YtbhoflmdhlchlaaOpenE
import Derived.Test.YtbhoflmdhlchlaaFrameUpto
namespace Go.Proofs.Ytbhoflmdhlchlaa
open Go Go.ChangeShapes Go.WideShapes Go.ChangeAt Go.RowKit
set_option linter.unusedVariables false
set_option linter.unusedSimpArgs false
set_option linter.unusedVariables false
set_option linter.unusedSimpArgs false

section
variable {H : Type} {enc : TypeId × Value → H} {P : Program} {W : World} {base : Nat}
theorem open_sl_d {t : TypeId} {fuel : Nat} {cs : List Value} {y : DataW H × List MemPlace}
    (ht : P.underlying t = some (.slice 5)) (he : P.underlying 5 = some (.int .u8)) (hc : P.cellsOf 5 = 1) (hby : P.bytesOf 5 = 1)
    (hf : DataW.trod enc P W base (fun _ => true) true fuel t cs = some y) (hsz : ∀ n ∈ y.1.weights P t, n ≤ reachBytes) :
    ∃ (A : Option Addr) (l : List UInt8) (c : Nat), cs = [.slice A l.length c] ∧ Rd W (.slice A l.length c) l ∧ l.length ≤ 140737488351232 ∧ l.length + 1 ≤ Rows.uptoBulk y.1 := by
  rcases open_ints ht he hc hf with ⟨hcs, hx⟩ | ⟨x, len0, cap0, zs, hcs, _, hl, hm, hz, hx, hcell, hwz⟩
  · subst hcs
    exact ⟨none, [], 0, rfl, Rd.nil W, by simp, bulk_one _⟩
  · subst hcs
    simp only [if_true] at hz
    have hd : y.1 = .slice (lits .u8 (zs.take len0)) (lits .u8 (zs.drop len0)) := by rw [hx]
    have hr := hsz ((zs.take len0).length + (zs.drop len0).length) (by rw [hd]; simp [DataW.weights, ht, hby, lits])
    have hlen : ((zs.take len0).map fun z => UInt8.ofNat z.toNat).length = len0 := by simp; omega
    refine ⟨some x, (zs.take len0).map fun z => UInt8.ofNat z.toNat, cap0, by rw [hlen], ?_, ?_, ?_⟩
    · refine ⟨some x, cap0, rfl, by rw [hlen]; exact hl, hm, fun h0 => ?_⟩
      rw [hlen] at h0
      have hc0 := hcell 0 (by omega)
      obtain ⟨b, o, sp⟩ := x
      have hsp : sp = none := by simpa [Addr.add] using World.cell?_spot hc0
      subst hsp
      refine ⟨b, o, rfl, ?_, fun i hi => ?_⟩
      · have := World.block_lt_of_cell? W _ hc0
        simpa [Addr.add] using this
      · rw [hlen] at hi
        have hci := hcell i (by omega)
        rw [addr_add] at hci
        rw [hci]
        have hiz : i < zs.length := by omega
        have hg : zs.getD i 0 = zs[i] := by simp [List.getD_eq_getElem?_getD, hiz]
        have hw := wf_u8 (hwz zs[i] (List.getElem_mem _))
        rw [hg]
        have h8 : (UInt8.ofNat zs[i].toNat).toNat = zs[i].toNat := by rw [UInt8.toNat_ofNat']; omega
        simp only [List.getElem_map, List.getElem_take, bv]
        rw [h8, Int.toNat_of_nonneg hw.1]
    · rw [hlen]
      have h1 : (zs.take len0).length = len0 := by simp; omega
      rw [h1] at hr
      have h2 : reachBytes = 140737488351232 := by decide
      rw [h2] at hr
      omega
    · rw [hlen, hd]
      have h1 := bulk_length (lits (H := H) .u8 (zs.take len0))
      have h2 : (lits (H := H) .u8 (zs.take len0)).length = len0 := by simp [lits]; omega
      simp only [Rows.uptoBulk]
      omega
end
section
variable {H : Type} {enc : TypeId × Value → H} {P : Program} {W : World} {base : Nat} {α : Type}
theorem sum_bulk (wt : α → Nat) (es : List α) (ds : List (DataW H)) (hl : ds.length = es.length) (h : ∀ i (h1 : i < es.length) (h2 : i < ds.length), wt es[i] ≤ Rows.uptoBulk ds[i]) : (es.map wt).sum ≤ Rows.uptoBulkAll ds := by
  induction es generalizing ds with
  | nil => simp
  | cons e r ih =>
    cases ds with
    | nil => simp at hl
    | cons d q =>
      have h0 := h 0 (by simp) (by simp)
      have h1 := ih q (by simpa using hl) fun i h1 h2 => by
        have := h (i + 1) (by simpa using h1) (by simpa using h2)
        simpa using this
      simp only [List.getElem_cons_zero] at h0
      simp only [List.map_cons, List.sum_cons, Rows.uptoBulkAll]
      omega
theorem open_els_cells_d (L : El α) (wt : α → Nat) (Good : α → Prop) {t : TypeId} (ht : P.underlying t = some (.slice L.E)) (hcb : P.cellsOf L.E = L.k)
    (hel : ∀ n cs y, DataW.trod enc P W base (fun _ => true) true n L.E cs = some y → (∀ q ∈ y.1.weights P L.E, q ≤ reachBytes) → ∃ a, L.rd none W cs a ∧ Good a ∧ wt a ≤ Rows.uptoBulk y.1)
    {fuel : Nat} {cs : List Value} {y : DataW H × List MemPlace} (hf : DataW.trod enc P W base (fun _ => true) true fuel t cs = some y) (hs : ∀ n ∈ y.1.weights P t, n ≤ reachBytes) :
    ∃ (A : Option Addr) (n c : Nat) (es : List α), cs = [.slice A n c] ∧ n = es.length ∧ RdE L W (.slice A n c) es ∧ (∀ a ∈ es, Good a) ∧ (es.map wt).sum ≤ Rows.uptoBulk y.1 := by
  rcases Go.Deep.open_slice ht hf with ⟨hcs, hx⟩ | ⟨a, len, cap, m, n, D, Pl, hcs, _, hl, hm, hmm, hx, hcell⟩
  · subst hcs
    exact ⟨none, 0, 0, [], rfl, rfl, RdE.nil W, by simp, by simp⟩
  · subst hcs
    simp only [if_true] at hmm
    have each : ∀ i, i < len → ∃ z : List Value × Option α, ∃ e, z.2 = some e ∧ (∀ q, q < L.k → W.cell? ((a.add (i * L.k)).add q) = z.1[q]?) ∧ L.rd none W z.1 e ∧ Good e ∧ wt e ≤ Rows.uptoBulk (D i) := fun i hi => by
      obtain ⟨cs', g1, g2⟩ := hcell i (by omega)
      rw [hcb] at g1
      obtain ⟨_, hlen, hcc⟩ := World.cells?_some g1
      obtain ⟨e, e1, e2, e3⟩ := hel n cs' _ g2 (fun q hq => hs q (by
        rw [hx]
        simp only [DataW.weights, ht, List.mem_cons, List.mem_append]
        exact .inr (.inl (weightsAll_in (List.mem_map.2 ⟨i, List.mem_range.2 hi, rfl⟩) q hq))))
      exact ⟨(cs', some e), e, rfl, hcc, e1, e2, e3⟩
    obtain ⟨Y, hY⟩ := Go.Deep.choose_lt each
    have hY2 : ∀ i, i < len → (Y i).2.isSome = true := fun i hi => by obtain ⟨e, h1, _⟩ := hY i hi; rw [h1]; rfl
    obtain ⟨es, hes, hesl⟩ : ∃ es : List α, es.length = len ∧ ∀ i (h : i < es.length), (Y i).2 = some es[i] := by
      refine ⟨(List.range len).pmap (fun i hi => (Y i).2.get (hY2 i hi)) (fun i hi => List.mem_range.1 hi), by simp, fun i h => ?_⟩
      simp
    have hr : ∀ i (h : i < es.length), L.rd none W (Y i).1 es[i] ∧ (Good es[i] ∧ wt es[i] ≤ Rows.uptoBulk (D i)) ∧ ∀ q, q < L.k → W.cell? ((a.add (i * L.k)).add q) = (Y i).1[q]? := fun i h => by
      obtain ⟨e, h1, h2, h3, h4, h5⟩ := hY i (by omega)
      have := hesl i h
      rw [h1] at this
      injection this with this
      subst this
      exact ⟨h3, ⟨h4, h5⟩, h2⟩
    have hk : ∀ c ∈ (List.range len).map (fun i => (Y i).1), c.length = L.k := fun c hc => by
      obtain ⟨i, hi, rfl⟩ := List.mem_map.1 hc
      exact L.len (hr i (by rw [hes]; exact List.mem_range.1 hi)).1
    obtain ⟨f1, f2⟩ := flat_get hk
    rw [List.length_map, List.length_range] at f1
    have hall : AllE L none W ((List.range len).map (fun i => (Y i).1)).flatten es := by
      refine ⟨by rw [f1, hes], fun j hj => ?_⟩
      have := f2 j (by rw [List.length_map, List.length_range]; omega)
      show L.rd none W (((List.range len).map (fun i => (Y i).1)).flatten.drop (j * L.k) |>.take L.k) es[j]
      rw [this, List.getElem_map, List.getElem_range]
      exact (hr j hj).1
    refine ⟨some a, len, cap, es, rfl, hes.symm, ⟨_, ⟨by rw [f1, hes], hall.one, some a, cap, by rw [hes], by rw [hes]; exact hl, hm, fun hp => ?_⟩, hall⟩, fun e he => ?_, ?_⟩
    · have hp' : 0 < len := by omega
      have hkp := L.pos
      have hc0 := (hr 0 (by omega)).2.2 0 hkp
      have hl0 := L.len (hr 0 (by omega)).1
      rw [List.getElem?_eq_getElem (by omega)] at hc0
      obtain ⟨b, o, sp⟩ := a
      have hsp : sp = none := by simpa [Addr.add] using World.cell?_spot hc0
      subst hsp
      refine ⟨b, o, rfl, ?_, fun j hj => ?_⟩
      · have := World.block_lt_of_cell? W _ hc0
        simpa [Addr.add] using this
      · rw [f1] at hj
        have hji : j / L.k < len := by rw [Nat.div_lt_iff_lt_mul hkp]; exact hj
        have h1 := Nat.div_add_mod j L.k
        have h2 := Nat.mod_lt j hkp
        have hcj := (hr (j / L.k) (by omega)).2.2 (j % L.k) h2
        rw [addr_add, addr_add, Nat.add_assoc, Nat.mul_comm, h1] at hcj
        rw [hcj]
        have g := f2 (j / L.k) (by rw [List.length_map, List.length_range]; exact hji)
        rw [List.getElem_map, List.getElem_range] at g
        rw [← g, List.getElem?_take_of_lt h2, List.getElem?_drop, Nat.mul_comm, h1, List.getElem?_eq_getElem (by rw [f1]; exact hj)]
    · obtain ⟨j, hj, rfl⟩ := List.getElem_of_mem he
      exact (hr j hj).2.1.1
    · have hd : y.1 = .slice ((List.range len).map D) ((List.range (m - len)).map fun j => D (len + j)) := by rw [hx]
      rw [hd]
      simp only [Rows.uptoBulk]
      have h1 : (es.map wt).sum ≤ Rows.uptoBulkAll ((List.range len).map D) := sum_bulk wt es _ (by simp [hes]) fun i h1 h2 => by
        rw [List.getElem_map, List.getElem_range]
        exact (hr i h1).2.1.2
      omega
theorem open_els_d (L : El α) (wt : α → Nat) (Good : α → Prop) {ts : List TypeId} {ds : List (DataW H)} {j : Nat} {t : TypeId} {v : Value} {d : DataW H} {p : List MemPlace} {b0 : Nat} {r : Reach} (ht : P.underlying t = some (.slice L.E)) (hcb : P.cellsOf L.E = L.k)
    (hel : ∀ n cs y, DataW.trod enc P W base (fun _ => true) true n L.E cs = some y → (∀ q ∈ y.1.weights P L.E, q ≤ reachBytes) → ∃ a, L.rd none W cs a ∧ Good a ∧ wt a ≤ Rows.uptoBulk y.1)
    (hv : Value.okWide P W r b0 t v) (h : DataW.Trod enc P W base (fun _ => true) true t v d p)
    (hsz : (DataW.weightsEach P ts ds).all (· ≤ reachBytes) = true) (hts : ts[j]? = some t) (hds : ds[j]? = some d) :
    ∃ es : List α, RdE L W v es ∧ (∀ a ∈ es, Good a) ∧ (es.map wt).sum ≤ Rows.uptoBulk d := by
  obtain ⟨a0, len0, cap0, rfl⟩ := okWide_slice ht hv
  obtain ⟨fuel, hf⟩ := h
  obtain ⟨A, n, c, es, e1, e2, e3, e4, e5⟩ := open_els_cells_d L wt Good ht hcb hel hf (sized_top hsz hts hds)
  simp [Value.cells] at e1
  obtain ⟨rfl, rfl, rfl⟩ := e1
  exact ⟨es, e3, e4, e5⟩
end
end Go.Proofs.Ytbhoflmdhlchlaa
