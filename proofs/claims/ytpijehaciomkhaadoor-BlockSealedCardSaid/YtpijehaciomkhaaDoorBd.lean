/- TEXTS OF OUR OWN, IN ONE FILE: heads and lists of hashes, what block needs of them. -/
import Derived.Test.YtpijehaciomkhaaDoorBc
import Derived.Test.YtpijehaciomkhaaDoorTm

section
namespace Go.Proofs.YtpijehaciomkhaaDoor
open Go Go.RowKit
set_option linter.unusedVariables false
set_option linter.unusedSimpArgs false
set_option linter.unusedVariables false
set_option linter.unusedSimpArgs false

/-- Rows of hashes, as elements: slices of slices. -/
def elR : El Hs where
  E := 68
  k := 1
  pos := by decide
  rd := fun s w cs a => ∃ u, cs = [u] ∧ RdA elH s w u a
  len := by rintro s w cs a ⟨u, rfl, _⟩; rfl
  one := by
    rintro s w cs a ⟨u, rfl, h⟩ v hv
    obtain rfl := List.mem_singleton.1 hv
    obtain ⟨A, c, rfl, _⟩ := h.1.h_parts
    rfl
  nx := fun ⟨u, e, h⟩ x => ⟨u, e, h.nx x⟩
  grown := fun ⟨u, e, h⟩ x => ⟨u, e, h.grown x⟩
  free := fun ⟨u, e, h⟩ => ⟨u, e, h.1, fun _ _ hq => by cases hq⟩
  apart := fun ⟨u, e, h⟩ hs => ⟨u, e, RdA.of_lt h.1 hs⟩
/-- The row above, as far as it has come. -/
def abvTo (l : Hs) (k : Nat) : Hs := (abv l).take k
theorem abvTo_next (l : Hs) (k : Nat) (hk : k < halfN l.length) : abvTo l (k + 1) = abvTo l k ++ [join2 (l.getD (2 * k) []) (l.getD (nbr (2 * k) l.length) [])] := by
  unfold abvTo
  rw [List.take_succ_eq_append_getElem (by rw [abv_length]; exact hk), abv_get]
theorem OwnE.setRow {B : Nat} {w : World} {v : Value} {es : Hs} (h : OwnE elH B w v es) {k : Nat} (cs : Array Value) (hk : ∀ q, v.ownBlock = some q → q ≠ k) : OwnE elH B (w.setRow k cs) v es := by
  obtain ⟨fs, ⟨h0, h2 | ⟨g, c, full, rfl, hb, hg, rest⟩⟩, hv⟩ := h
  · exact ⟨fs, ⟨h0, .inl h2⟩, hv⟩
  · refine ⟨fs, ⟨h0, .inr ⟨g, c, full, rfl, hb, ?_, rest⟩⟩, hv⟩
    rw [Go.setRow_other _ _ _ _ (hk g rfl)]
    exact hg
theorem RdE.h32 {w : World} {v : Value} {l : Hs} (h : RdE elH w v l) : H32 l := by obtain ⟨_, _, _, _, _, h, _⟩ := h.h_parts; exact h
theorem allOk_step (l : Hs) (h : ¬ l.length ≤ 1) (s : Bool) : (s && allOk l) = ((s && okRow l) && allOk (abv l)) := by rw [allOk_gt h, Bool.and_assoc]


/-- The hashes joined and appended, in whatever order. -/
def J14 (B1 : Nat) (wx : World) (up pv : Value) (a b H : List UInt8) (D : Hs) (L : Nat → Bool) (x : Nat → Value) (w' : World) : Prop :=
  (L 9 = false → Nx wx w') ∧ (L 0 = true → x 0 = up) ∧ (L 1 = true → x 1 = pv) ∧ (L 2 = true → x 2 = .agg (hcel a)) ∧ (L 3 = true → L 6 = false → Own wx.heap.size w' (x 3) a) ∧ (L 4 = true → x 4 = .agg (hcel b)) ∧ (L 5 = true → L 6 = false → Own wx.heap.size w' (x 5) b) ∧
  (L 3 = true → L 5 = true → L 6 = false → ∀ q, (x 3).ownBlock = some q → (x 5).ownBlock ≠ some q) ∧ (L 6 = true → L 7 = false → Own wx.heap.size w' (x 6) (a ++ b)) ∧ (L 7 = true → x 7 = .agg (hcel H)) ∧ (L 8 = true → L 9 = false → ∃ g, x 8 = .slice (some ⟨g, 0, none⟩) 1 1 ∧ wx.heap.size ≤ g ∧ Row w' g (hcel H) 23) ∧
  (L 9 = true → OwnE elH B1 w' (x 9) (D ++ [H]) ∧ Below B1 wx w') ∧ (L 10 = true → x 10 = x 9) ∧ (L 10 = false → x 10 = up)
theorem RdF.of_row1 {w : World} {g : Nat} {x : List UInt8} (h : Row w g (hcel x) 23) (hx : x.length = 32) : RdF 32 w (.slice (some ⟨g, 0, none⟩) 1 1) 1 (hfs [x]) := by
  have h32 : H32 [x] := H32.one hx
  refine ⟨hfs_length h32, hfs_one _, some ⟨g, 0, none⟩, 1, rfl, Nat.le_refl _, by decide, fun _ => ⟨g, 0, rfl, h.lt, fun j hj => ?_⟩⟩
  rw [Nat.zero_add]
  refine h.cell ?_
  simp only [hfs, List.flatMap_cons, List.flatMap_nil, List.append_nil, hcel, List.getElem?_toArray]
  exact List.getElem?_eq_getElem _

theorem info_rows : (Tryd.prog.info? 68).map (fun i => (i.zero, i.size, i.bytes)) = some (some (.slice none 0 0), 1, 24) := by kernel_rfl
theorem rdF_one1 (v : Value) (h : v.oneCell' = true) (w : World) (T : TypeId) : RdF 1 (w.alloc (.cells #[v] T)) (.slice (some ⟨w.heap.size, 0, none⟩) 1 1) 1 [v] := by
  refine ⟨rfl, fun u hu => by rw [List.mem_singleton.1 hu]; exact h, _, _, rfl, Nat.le_refl _, by decide, fun _ => ⟨_, _, rfl, by simp, fun j hj => ?_⟩⟩
  have : j = 0 := by simpa using hj
  subst this
  exact (Row.new w #[v] T _ rfl).cell rfl
theorem ownE_one (w : World) (u : Value) (l : Hs) (h : RdE elH w u l) : OwnE elR w.heap.size (w.alloc (.cells #[u] 68)) (.slice (some ⟨w.heap.size, 0, none⟩) 1 1) [l] := by
  refine ⟨[u], ⟨rfl, .inr ⟨w.heap.size, 1, [u], rfl, Nat.le_refl _, heap_alloc_new w _, rfl, Nat.le_refl _, by decide, rfl⟩⟩, AllE.single (L := elR) ⟨u, rfl, ?_⟩⟩
  exact (RdA.of_lt h (fun q hq => by have : w.heap.size = q := (by simpa [Value.ownBlock] using hq); omega)).nx ((Nx.refl w).alloc _)
theorem okMin (l : Hs) (k : Nat) (h : 2 * k + 1 < l.length) : okTo l (min (k + 1) (l.length / 2)) = (okTo l (min k (l.length / 2)) && decide (l.getD (2 * k) [] ≠ l.getD (2 * k + 1) [])) := by
  rw [show min (k + 1) (l.length / 2) = k + 1 by omega, show min k (l.length / 2) = k by omega, okTo_next]

end Go.Proofs.YtpijehaciomkhaaDoor
end

section
namespace Go.Proofs.YtpijehaciomkhaaDoor
open Go Go.RowKit
set_option linter.unusedVariables false
set_option linter.unusedSimpArgs false
set_option linter.unusedVariables false
set_option linter.unusedSimpArgs false

theorem rowsF_cons (l : Hs) : ∃ t, rowsF l = l :: t ∧ (l.length ≤ 1 → t = []) ∧ (¬ l.length ≤ 1 → t = rowsF (abv l)) := by
  by_cases h : l.length ≤ 1
  · exact ⟨[], rowsF_le h, fun _ => rfl, fun h2 => absurd h h2⟩
  · exact ⟨rowsF (abv l), rowsF_gt h, fun h2 => absurd h2 h, fun _ => rfl⟩
theorem rowsF_pos (l : Hs) : 0 < (rowsF l).length := by obtain ⟨t, h, _⟩ := rowsF_cons l; rw [h]; simp
theorem rowsF_last : ∀ (l : Hs), (rowsF l)[(rowsF l).length - 1]? = some (topR l) := by
  intro l
  induction hn : l.length using Nat.strongRecOn generalizing l with
  | _ n ih =>
    by_cases h1 : l.length ≤ 1
    · rw [rowsF_le h1, topR_le h1]; rfl
    · rw [rowsF_gt h1, topR_gt h1]
      have := ih _ (by rw [← hn]; exact abv_lt h1) (abv l) rfl
      have hp := rowsF_pos (abv l)
      rw [List.length_cons, Nat.add_sub_cancel]
      obtain ⟨q, hq⟩ : ∃ q, (rowsF (abv l)).length = q + 1 := ⟨_, (Nat.succ_pred_eq_of_pos hp).symm⟩
      rw [hq] at this ⊢
      simpa using this
theorem rowsF_bound : ∀ (l : Hs), (rowsF l).length ≤ l.length + 1 := by
  intro l
  induction hn : l.length using Nat.strongRecOn generalizing l with
  | _ n ih =>
    by_cases h1 : l.length ≤ 1
    · rw [rowsF_le h1]; simp
    · rw [rowsF_gt h1]
      have := ih _ (by rw [← hn]; exact abv_lt h1) (abv l) rfl
      have := abv_lt h1
      rw [List.length_cons]; omega
/-- A row that stands in a list of rows. -/
theorem RdE.row {w : World} {v : Value} {rs : List Hs} (h : RdE elR w v rs) : ∃ A c, v = .slice A rs.length c ∧ (0 < rs.length → ∃ b o, A = some ⟨b, o, none⟩ ∧ b < w.heap.size ∧ ∀ j r, rs[j]? = some r → ∃ u, w.cell? ⟨b, o + j, none⟩ = some u ∧ RdE elH w u r) := by
  obtain ⟨A, c, fs, rfl, h1, h2, h3, h4⟩ := h.parts
  refine ⟨A, c, rfl, fun hp => ?_⟩
  obtain ⟨b, o, rfl, hb, hc⟩ := h4 hp
  refine ⟨b, o, rfl, hb, fun j r hr => ?_⟩
  obtain ⟨hj, rfl⟩ := List.getElem?_eq_some_iff.1 hr
  obtain ⟨cs, hcl, ⟨u, rfl, hu⟩, hi⟩ := h3.at j hj
  obtain ⟨hf, hfe⟩ := hi 0 (by simp)
  refine ⟨u, ?_, hu.1⟩
  have hk : elR.k = 1 := rfl
  have := hc (j * elR.k + 0) hf
  rw [hfe] at this
  simpa [hk] using this

end Go.Proofs.YtpijehaciomkhaaDoor
end

section
namespace Go.Proofs.YtpijehaciomkhaaDoor
open Go Go.RowKit
set_option linter.unusedVariables false
set_option linter.unusedSimpArgs false
set_option linter.unusedVariables false
set_option linter.unusedSimpArgs false

theorem wp_neq_of {P : Program} {o : Oper} {a : Act} {w : World} {K : Act → World → Prop} {Q : Exit → Act → World → Prop} (dst : Option Tmp) (hd : o.dst = dst) (T : TypeId) (x y : Operand) (T' : TypeId) (ho : o.op = .binOp .neq T x y T') (X Y : Array Value)
    (hx : a.eval x = .agg X) (hy : a.eval y = .agg Y) (hgt : P.eqGuardType P.depth T = false) (b : Bool) (heq : (Op.equalIn 10000 T (.agg X) (.agg Y)).run P w = .ok b w) (h : K (a.put dst (.bool (!b))) w) : o.wp P a w K Q := by
  refine wp_val_of dst hd (.bool (!b)) ?_ h
  unfold execOp
  simp only [ho]
  have e1 : (eqGuard .neq T x y (a.eval x) (a.eval y)).run P w = .ok () w := by
    rw [hx, hy]
    simp [eqGuard, hgt, Sem.run_bind, Sem.run_pure, run_program]
  have e2 : (binOp .neq T (a.eval x) (a.eval y)).run P w = .ok (.bool (!b)) w := by
    rw [hx, hy]
    have : (Op.equal T (.agg X) (.agg Y)).run P w = .ok b w := heq
    simp [binOp, Sem.run_bind, this]
  simp only [Sem.run_bind, e1, e2, Result.andThen_ok, Sem.run_pure]

end Go.Proofs.YtpijehaciomkhaaDoor
end
