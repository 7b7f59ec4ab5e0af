/- OPENING WHAT CAME IN: bytes in a field, slices of slices of bytes, of our own. -/
import Derived.Test.YtbhoflmdhlchlaaList
import Derived.Deep.Slices
namespace Go.Proofs.Ytbhoflmdhlchlaa
open Go Go.ChangeShapes Go.WideShapes Go.ChangeAt Go.RowKit
set_option linter.unusedVariables false
set_option linter.unusedSimpArgs false
set_option linter.unusedVariables false
set_option linter.unusedSimpArgs false

theorem bytes_of_ints (zs : List Int) (hw : ∀ z ∈ zs, (Lit.int .u8 z).wf = true) : ∃ l : List UInt8, l.length = zs.length ∧ zs.map (Value.int .u8) = bvs l := by
  refine ⟨zs.map fun z => UInt8.ofNat z.toNat, by simp, ?_⟩
  unfold bvs
  rw [List.map_map]
  refine List.map_congr_left fun z hz => ?_
  have := wf_u8 (hw z hz)
  simp only [Function.comp, bv, UInt8.toNat_ofNat']
  congr 1
  omega
theorem cut_next {α : Type} (cs : List α) (o k : Nat) : cs.drop o = (cs.drop o).take k ++ cs.drop (o + k) := by
  rw [← List.drop_drop, List.take_append_drop]
theorem cut_end {α : Type} (cs : List α) (o : Nat) (h : cs.length = o) : cs.drop o = [] := List.drop_eq_nil_of_le (Nat.le_of_eq h)

section
variable {H : Type} {enc : TypeId × Value → H} {P : Program} {W : World} {base : Nat}
theorem open_sl {t : TypeId} {fuel : Nat} {cs : List Value} {y : DataW H × List MemPlace}
    (ht : P.underlying t = some (.slice 5)) (he : P.underlying 5 = some (.int .u8)) (hc : P.cellsOf 5 = 1) (hby : P.bytesOf 5 = 1)
    (hf : DataW.trod enc P W base (fun _ => true) true fuel t cs = some y) (hsz : ∀ n ∈ y.1.weights P t, n ≤ reachBytes) :
    ∃ (A : Option Addr) (l : List UInt8) (c : Nat), cs = [.slice A l.length c] ∧ Rd W (.slice A l.length c) l ∧ l.length ≤ 140737488351232 := by
  rcases open_ints ht he hc hf with ⟨hcs, hx⟩ | ⟨x, len0, cap0, zs, hcs, _, hl, hm, hz, hx, hcell, hwz⟩
  · subst hcs
    exact ⟨none, [], 0, rfl, Rd.nil W, by simp⟩
  · subst hcs
    simp only [if_true] at hz
    have hd : y.1 = .slice (lits .u8 (zs.take len0)) (lits .u8 (zs.drop len0)) := by rw [hx]
    have hr := hsz ((zs.take len0).length + (zs.drop len0).length) (by rw [hd]; simp [DataW.weights, ht, hby, lits])
    have hlen : ((zs.take len0).map fun z => UInt8.ofNat z.toNat).length = len0 := by simp; omega
    refine ⟨some x, (zs.take len0).map fun z => UInt8.ofNat z.toNat, cap0, by rw [hlen], ?_, ?_⟩
    · refine ⟨some x, cap0, rfl, by rw [hlen]; exact hl, hm, fun h0 => ?_⟩
      rw [hlen] at h0
      have hc0 := hcell 0 (by omega)
      obtain ⟨b, o, sp⟩ := x
      have hsp : sp = none := by simpa [Addr.add] using World.cell?_spot hc0
      subst hsp
      refine ⟨b, o, rfl, ?_, fun i hi => ?_⟩
      · have := World.block_lt_of_cell? W _ hc0
        simpa [Addr.add] using this
      · rw [hlen] at hi
        have hci := hcell i (by omega)
        rw [addr_add] at hci
        rw [hci]
        have hiz : i < zs.length := by omega
        have hg : zs.getD i 0 = zs[i] := by simp [List.getD_eq_getElem?_getD, hiz]
        have hw := wf_u8 (hwz zs[i] (List.getElem_mem _))
        rw [hg]
        have h8 : (UInt8.ofNat zs[i].toNat).toNat = zs[i].toNat := by rw [UInt8.toNat_ofNat']; omega
        simp only [List.getElem_map, List.getElem_take, bv]
        rw [h8, Int.toNat_of_nonneg hw.1]
    · rw [hlen]
      have h1 : (zs.take len0).length = len0 := by simp; omega
      rw [h1] at hr
      have h2 : reachBytes = 140737488351232 := by decide
      rw [h2] at hr
      omega
theorem sized_top {ts : List TypeId} {ds : List (DataW H)} (h : (DataW.weightsEach P ts ds).all (· ≤ reachBytes) = true) {j : Nat} {t : TypeId} {d : DataW H} (ht : ts[j]? = some t) (hd : ds[j]? = some d) : ∀ n ∈ d.weights P t, n ≤ reachBytes :=
  fun n hn => of_decide_eq_true (List.all_eq_true.1 h _ (DataW.weights_mem_each ht hd n hn))
theorem sized_field {t : TypeId} {fs : Array Field} {parts : List (DataW H)} (hu : P.underlying t = some (.struct fs)) (h : ∀ n ∈ (DataW.agg parts).weights P t, n ≤ reachBytes) {j : Nat} {u : TypeId} {d : DataW H}
    (ht : (fs.toList.map (·.type))[j]? = some u) (hd : parts[j]? = some d) : ∀ n ∈ d.weights P u, n ≤ reachBytes := fun n hn => h n (by
  simp only [DataW.weights, hu]
  exact DataW.weights_mem_each ht hd n hn)
end

section
variable {H : Type} {enc : TypeId × Value → H} {P : Program} {W : World} {base : Nat}
theorem weightsAll_in {P : Program} {e : TypeId} : ∀ {l : List (DataW H)} {d : DataW H}, d ∈ l → ∀ n ∈ d.weights P e, n ∈ DataW.weightsAll P e l
  | x :: l, d, hd, n, hn => by
    simp only [DataW.weightsAll, List.mem_append]
    rcases List.mem_cons.1 hd with rfl | h
    · exact .inl hn
    · exact .inr (weightsAll_in h n hn)
theorem open_lists {ts : List TypeId} {ds : List (DataW H)} {j : Nat} {t : TypeId} {v : Value} {d : DataW H} {p : List MemPlace} {b0 : Nat} {r : Reach}
    (ht : P.underlying t = some (.slice 23)) (hb : P.underlying 23 = some (.slice 5)) (he : P.underlying 5 = some (.int .u8)) (hcb : P.cellsOf 23 = 1) (hc : P.cellsOf 5 = 1) (hby : P.bytesOf 5 = 1)
    (hv : Value.okWide P W r b0 t v) (h : DataW.Trod enc P W base (fun _ => true) true t v d p)
    (hsz : (DataW.weightsEach P ts ds).all (· ≤ reachBytes) = true) (hts : ts[j]? = some t) (hds : ds[j]? = some d) :
    ∃ ls : List (List UInt8), RdL W v ls ∧ ∀ l ∈ ls, l.length ≤ 140737488351232 := by
  have hs := sized_top hsz hts hds
  obtain ⟨a0, len0, cap0, rfl⟩ := okWide_slice ht hv
  obtain ⟨fuel, hf⟩ := h
  rcases Go.Deep.open_slice1 ht hcb hf with ⟨hcs, hx⟩ | ⟨a, len, cap, m, n, V, D, Pl, hcs, _, hl, hm, hmm, hx, hcell⟩
  · simp [Value.cells] at hcs
    obtain ⟨rfl, rfl, rfl⟩ := hcs
    exact ⟨[], RdL.nil W, by simp⟩
  · simp [Value.cells] at hcs
    obtain ⟨rfl, rfl, rfl⟩ := hcs
    simp only [if_true] at hmm
    simp only [Prod.mk.injEq] at hx
    have each : ∀ i, i < len0 → ∃ y : Option Addr × List UInt8 × Nat, V i = .slice y.1 y.2.1.length y.2.2 ∧ Rd W (.slice y.1 y.2.1.length y.2.2) y.2.1 ∧ y.2.1.length ≤ 140737488351232 := fun i hi => by
      obtain ⟨g1, g2⟩ := hcell i (by omega)
      obtain ⟨A, l, c, e1, e2, e3⟩ := open_sl hb he hc hby g2 (fun q hq => hs q (by
        rw [hx.1]
        simp only [DataW.weights, ht, List.mem_cons, List.mem_append]
        exact .inr (.inl (weightsAll_in (List.mem_map.2 ⟨i, List.mem_range.2 hi, rfl⟩) q hq))))
      exact ⟨(A, l, c), by simpa using e1, e2, e3⟩
    obtain ⟨Y, hY⟩ := Go.Deep.choose_lt each
    refine ⟨(List.range len0).map fun i => (Y i).2.1, ⟨(List.range len0).map V, ⟨some a, cap0, by simp, by simpa using hl, hm, ?_, fun hp => ?_⟩, by simp, fun j u l h1 h2 => ?_⟩, ?_⟩
    · intro u hu
      obtain ⟨i, hi, rfl⟩ := List.mem_map.1 hu
      rw [(hY i (List.mem_range.1 hi)).1]
      rfl
    · have hp' : 0 < len0 := by simpa using hp
      have hc0 := (hcell 0 (by omega)).1
      obtain ⟨b, o, sp⟩ := a
      have hsp : sp = none := by simpa [Addr.add] using World.cell?_spot hc0
      subst hsp
      refine ⟨b, o, rfl, ?_, fun i hi => ?_⟩
      · have := World.block_lt_of_cell? W _ hc0
        simpa [Addr.add] using this
      · have hi' : i < len0 := by simpa using hi
        have := (hcell i (by omega)).1
        rw [addr_add] at this
        rw [this]
        simp
    · obtain ⟨hj, rfl⟩ := List.getElem?_eq_some_iff.1 h1
      obtain ⟨hj2, rfl⟩ := List.getElem?_eq_some_iff.1 h2
      have hj' : j < len0 := by simpa using hj
      simp only [List.getElem_map, List.getElem_range]
      rw [(hY j hj').1]
      exact ⟨(hY j hj').2.1, fun _ k hk => by cases hk⟩
    · intro l hl
      obtain ⟨i, hi, rfl⟩ := List.mem_map.1 hl
      exact (hY i (List.mem_range.1 hi)).2.2
end
end Go.Proofs.Ytbhoflmdhlchlaa
