/- LISTS OF ELEMENTS THAT ARE TOLD BY A RULE, of our own. -/
import Derived.Test.YtjbeemoobmagnaaDoorEl
namespace Go.Proofs.YtjbeemoobmagnaaDoor
open Go Go.RowKit
set_option linter.unusedVariables false
set_option linter.unusedSimpArgs false
set_option linter.unusedVariables false
set_option linter.unusedSimpArgs false

/-- How an element of type E is read of its k cells; what it holds lies in no block that s names. -/
structure El (α : Type) where
  E : TypeId
  k : Nat
  pos : 0 < k
  rd : Option Nat → World → List Value → α → Prop
  len : ∀ {s w cs a}, rd s w cs a → cs.length = k
  one : ∀ {s w cs a}, rd s w cs a → ∀ u ∈ cs, u.oneCell' = true
  nx : ∀ {s w w' cs a}, rd s w cs a → Nx w w' → rd s w' cs a
  grown : ∀ {s w w' cs a}, rd s w cs a → w.grownBy w' s → rd s w' cs a
  free : ∀ {s w cs a}, rd s w cs a → rd none w cs a
  apart : ∀ {s w cs a}, rd none w cs a → (∀ q, s = some q → w.heap.size ≤ q) → rd s w cs a

section
variable {α : Type} (L : El α)
/-- The cells of element j. -/
def El.cut (fs : List Value) (j : Nat) : List Value := (fs.drop (j * L.k)).take L.k
def AllE (s : Option Nat) (w : World) (fs : List Value) (es : List α) : Prop := fs.length = es.length * L.k ∧ ∀ j (h : j < es.length), L.rd s w (L.cut fs j) es[j]
def RdE (w : World) (v : Value) (es : List α) : Prop := ∃ fs, RdF L.k w v es.length fs ∧ AllE L none w fs es
def OwnE (B : Nat) (w : World) (v : Value) (es : List α) : Prop := ∃ fs, OwnF L.E L.k B w v es.length fs ∧ AllE L v.ownBlock w fs es
variable {L}
theorem AllE.nil (s : Option Nat) (w : World) : AllE L s w [] [] := ⟨by simp, fun j h => by simp at h⟩
theorem AllE.nx {s : Option Nat} {w w' : World} {fs : List Value} {es : List α} (h : AllE L s w fs es) (x : Nx w w') : AllE L s w' fs es := ⟨h.1, fun j hj => L.nx (h.2 j hj) x⟩
theorem AllE.free {s : Option Nat} {w : World} {fs : List Value} {es : List α} (h : AllE L s w fs es) : AllE L none w fs es := ⟨h.1, fun j hj => L.free (h.2 j hj)⟩
theorem AllE.apart {s : Option Nat} {w : World} {fs : List Value} {es : List α} (h : AllE L none w fs es) (hs : ∀ q, s = some q → w.heap.size ≤ q) : AllE L s w fs es := ⟨h.1, fun j hj => L.apart (h.2 j hj) hs⟩
theorem AllE.to {s : Option Nat} {w w' : World} {fs : List Value} {es : List α} (h : AllE L none w fs es) (x : Nx w w') (hs : ∀ q, s = some q → w.heap.size ≤ q) : AllE L s w' fs es := (h.apart hs).nx x
theorem AllE.grown {s : Option Nat} {w w' : World} {fs : List Value} {es : List α} (h : AllE L s w fs es) (x : w.grownBy w' s) : AllE L s w' fs es := ⟨h.1, fun j hj => L.grown (h.2 j hj) x⟩
theorem AllE.one {s : Option Nat} {w : World} {fs : List Value} {es : List α} (h : AllE L s w fs es) : ∀ u ∈ fs, u.oneCell' = true := by
  intro u hu
  obtain ⟨q, hq, rfl⟩ := List.getElem_of_mem hu
  have hk := L.pos
  have hj : q / L.k < es.length := by rw [Nat.div_lt_iff_lt_mul hk, ← h.1]; exact hq
  refine L.one (h.2 _ hj) fs[q] ?_
  unfold El.cut
  have h1 := Nat.div_add_mod q L.k
  have h2 := Nat.mod_lt q hk
  rw [List.mem_iff_getElem?]
  refine ⟨q % L.k, ?_⟩
  rw [List.getElem?_take_of_lt h2, List.getElem?_drop, Nat.mul_comm, h1, List.getElem?_eq_getElem hq]
theorem El.cut_left {fs us : List Value} {n j : Nat} (h : fs.length = n * L.k) (hj : j < n) : L.cut (fs ++ us) j = L.cut fs j := by
  unfold El.cut
  have hle : (j + 1) * L.k ≤ n * L.k := Nat.mul_le_mul_right _ hj
  rw [Nat.add_mul, Nat.one_mul] at hle
  rw [List.drop_append_of_le_length (by omega), List.take_append_of_le_length (by rw [List.length_drop]; omega)]
theorem El.cut_right {fs us : List Value} {n j : Nat} (h : fs.length = n * L.k) : L.cut (fs ++ us) (n + j) = L.cut us j := by
  unfold El.cut
  rw [Nat.add_mul, ← h, List.drop_append, List.drop_of_length_le (by omega), List.nil_append]
  congr 2
  omega
theorem AllE.append {s : Option Nat} {w : World} {fs us : List Value} {es bs : List α} (h : AllE L s w fs es) (x : AllE L s w us bs) : AllE L s w (fs ++ us) (es ++ bs) := by
  refine ⟨by rw [List.length_append, List.length_append, h.1, x.1, Nat.add_mul], fun j hj => ?_⟩
  by_cases hlt : j < es.length
  · rw [El.cut_left h.1 hlt, List.getElem_append_left hlt]
    exact h.2 j hlt
  · obtain ⟨i, rfl⟩ : ∃ i, j = es.length + i := ⟨j - es.length, by omega⟩
    rw [El.cut_right h.1]
    have hi : i < bs.length := by rw [List.length_append] at hj; omega
    have := x.2 i hi
    rw [List.getElem_append_right (by omega)]
    simpa using this
theorem AllE.single {s : Option Nat} {w : World} {cs : List Value} {a : α} (h : L.rd s w cs a) : AllE L s w cs [a] := by
  have hl := L.len h
  refine ⟨by simpa using hl, fun j hj => ?_⟩
  have : j = 0 := by simpa using hj
  subst this
  unfold El.cut
  rw [Nat.zero_mul, List.drop_zero, List.take_of_length_le (by omega)]
  exact h
theorem El.cut_take {fs : List Value} {m j : Nat} (hj : j < m) : L.cut (fs.take (m * L.k)) j = L.cut fs j := by
  unfold El.cut
  have hle : (j + 1) * L.k ≤ m * L.k := Nat.mul_le_mul_right _ hj
  rw [Nat.add_mul, Nat.one_mul] at hle
  rw [List.drop_take, List.take_take]
  congr 1
  omega
theorem El.cut_drop {fs : List Value} {lo j : Nat} : L.cut (fs.drop (lo * L.k)) j = L.cut fs (lo + j) := by
  unfold El.cut
  rw [List.drop_drop, Nat.add_mul]
theorem AllE.take {s : Option Nat} {w : World} {fs : List Value} {es : List α} (h : AllE L s w fs es) (m : Nat) (hm : m ≤ es.length) : AllE L s w (fs.take (m * L.k)) (es.take m) := by
  have hle : m * L.k ≤ es.length * L.k := Nat.mul_le_mul_right _ hm
  have hl : (es.take m).length = m := by rw [List.length_take]; omega
  refine ⟨by rw [List.length_take, h.1, hl]; omega, fun j hj => ?_⟩
  rw [hl] at hj
  rw [El.cut_take hj, List.getElem_take]
  exact h.2 j (by omega)
theorem AllE.drop {s : Option Nat} {w : World} {fs : List Value} {es : List α} (h : AllE L s w fs es) (lo : Nat) : AllE L s w (fs.drop (lo * L.k)) (es.drop lo) := by
  refine ⟨by rw [List.length_drop, List.length_drop, h.1, Nat.sub_mul], fun j hj => ?_⟩
  rw [List.length_drop] at hj
  rw [El.cut_drop, List.getElem_drop]
  exact h.2 (lo + j) (by omega)
theorem RdE.nx {w w' : World} {v : Value} {es : List α} (h : RdE L w v es) (x : Nx w w') : RdE L w' v es := by
  obtain ⟨fs, h1, h2⟩ := h
  exact ⟨fs, h1.nx x, h2.nx x⟩
theorem OwnE.nx {B : Nat} {w w' : World} {v : Value} {es : List α} (h : OwnE L B w v es) (x : Nx w w') : OwnE L B w' v es := by
  obtain ⟨fs, h1, h2⟩ := h
  exact ⟨fs, h1.nx x, h2.nx x⟩
theorem OwnE.mono {B B' : Nat} {w : World} {v : Value} {es : List α} (h : OwnE L B w v es) (hB : B' ≤ B) : OwnE L B' w v es := by
  obtain ⟨fs, h1, h2⟩ := h
  exact ⟨fs, h1.mono hB, h2⟩
theorem OwnE.rd {B : Nat} {w : World} {v : Value} {es : List α} (h : OwnE L B w v es) : RdE L w v es := by
  obtain ⟨fs, h1, h2⟩ := h
  exact ⟨fs, h1.rd h2.one, h2.free⟩
theorem OwnE.blk {B : Nat} {w : World} {v : Value} {es : List α} (h : OwnE L B w v es) : ∀ q, v.ownBlock = some q → B ≤ q ∧ q < w.heap.size := by
  obtain ⟨fs, h1, h2⟩ := h
  exact h1.block
theorem RdE.nil (w : World) : RdE L w (.slice none 0 0) [] := ⟨[], RdF.nil _ w, AllE.nil _ _⟩
theorem OwnE.nil (B : Nat) (w : World) : OwnE L B w (.slice none 0 0) [] := ⟨[], OwnF.nil _ _ _ _, AllE.nil _ _⟩
/-- What is known of a list that is read. -/
theorem RdE.parts {w : World} {v : Value} {es : List α} (h : RdE L w v es) : ∃ A c fs, v = .slice A es.length c ∧ es.length ≤ c ∧ c ≤ maxLen ∧ AllE L none w fs es ∧ (0 < es.length → ∃ b o, A = some ⟨b, o, none⟩ ∧ b < w.heap.size ∧ ∀ j (h : j < fs.length), w.cell? ⟨b, o + j, none⟩ = some fs[j]) := by
  obtain ⟨fs, ⟨_, _, A, c, rfl, h1, h2, h3⟩, h4⟩ := h
  exact ⟨A, c, fs, rfl, h1, h2, h4, h3⟩
/-- The cells of element j, at their places. -/
theorem AllE.at {s : Option Nat} {w : World} {fs : List Value} {es : List α} (h : AllE L s w fs es) (j : Nat) (hj : j < es.length) : ∃ cs : List Value, cs.length = L.k ∧ L.rd s w cs es[j] ∧ ∀ i (hi : i < cs.length), ∃ hf : j * L.k + i < fs.length, fs[j * L.k + i] = cs[i] := by
  have hr := h.2 j hj
  have hl := L.len hr
  refine ⟨L.cut fs j, hl, hr, fun i hi => ?_⟩
  have hle : (j + 1) * L.k ≤ es.length * L.k := Nat.mul_le_mul_right _ hj
  rw [Nat.add_mul, Nat.one_mul, ← h.1] at hle
  have hf : j * L.k + i < fs.length := by omega
  have e : (L.cut fs j)[i]? = fs[j * L.k + i]? := by
    unfold El.cut
    rw [List.getElem?_take_of_lt (by omega), List.getElem?_drop]
  rw [List.getElem?_eq_getElem hi, List.getElem?_eq_getElem hf] at e
  exact ⟨hf, (Option.some.inj e).symm⟩
/-- An append to a list of the call's own. -/
theorem wpList_appE {P : Program} {w : World} {ops : Array Oper} {rest : List Oper} {o : Oper} {a : Act} {Q : Exit → Act → World → Prop} (L : El α) (hgd : o.guard = none) (s x : Operand) (t : TypeId)
    (ho : o.op = .call { callee := .builtin .append, args := #[s, x], argTypes := #[t, t] }) (z : Value) (by' : Nat) (ht : P.underlying t = some (.slice L.E)) (hi : (P.info? L.E).map (fun i => (i.zero, i.size, i.bytes)) = some (some z, L.k, by')) (hzc : z.cells.size = L.k)
    (B : Nat) (v vx : Value) (es bs : List α) (us : List Value) (hs : a.eval s = v) (hx : a.eval x = vx) (hown : OwnE L B w v es) (hr : RdF L.k w vx bs.length us) (hu : AllE L v.ownBlock w us bs) (hlen : (es.length + bs.length) * by' ≤ 140737488355328) (hmx : es.length + bs.length ≤ maxLen) (hB : B ≤ w.heap.size)
    (h : ∀ v' w', OwnE L B w' v' (es ++ bs) → Below B w w' → w.grownBy w' v.ownBlock → wpList P ops Q rest (a.put o.dst v') w') : wpList P ops Q (o :: rest) a w := by
  obtain ⟨fs, h1, h2⟩ := hown
  refine wpList_appF hgd s x t ho L.E z L.k by' ht hi hzc L.pos B v vx es.length bs.length fs us hs hx h1 hr hlen hmx hB fun v' w' g1 g2 g3 g4 => h v' w' ⟨fs ++ us, by rw [List.length_append]; exact g1, ?_⟩ g2 g3
  rcases g4 with g4 | g4
  · rw [g4]
    exact (h2.append hu).grown g3
  · obtain ⟨g4, g5⟩ := g4
    rw [g4]
    exact (h2.append hu).free.to (Below.grown (Below.refl _ _) g5 (Nat.le_refl _) (fun q hq => by cases hq)) (fun q hq => by
      have : w.heap.size = q := by simpa using hq
      omega)
theorem RdE.pre {w : World} {A : Option Addr} {c : Nat} {es : List α} (h : RdE L w (.slice A es.length c) es) (m c' : Nat) (hm : m ≤ es.length) (h1 : m ≤ c') (h2 : c' ≤ maxLen) : RdE L w (.slice A m c') (es.take m) := by
  obtain ⟨fs, ⟨q0, q3, A0, c0, e, q1, q2, q4⟩, hv⟩ := h
  injection e with e1 e2 e3
  subst e1
  have hle : m * L.k ≤ es.length * L.k := Nat.mul_le_mul_right _ hm
  have hl : (es.take m).length = m := by rw [List.length_take]; omega
  refine ⟨fs.take (m * L.k), ⟨by rw [hl, List.length_take, q0]; omega, fun u hu => q3 u (List.mem_of_mem_take hu), A, c', by rw [hl], by rw [hl]; exact h1, h2, fun hp => ?_⟩, hv.take m hm⟩
  rw [hl] at hp
  obtain ⟨b, o, rfl, hb, hc⟩ := q4 (by omega)
  exact ⟨b, o, rfl, hb, fun j hj => by rw [List.getElem_take]; exact hc j (by rw [List.length_take] at hj; omega)⟩
end
/-- Bytes in a cell: they are read, and lie in no block that s names. -/
def RdS (s : Option Nat) (w : World) (u : Value) (l : List UInt8) : Prop := Rd w u l ∧ (0 < l.length → ∀ q, s = some q → u.ownBlock ≠ some q)
theorem RdS.grown {s : Option Nat} {w w' : World} {u : Value} {l : List UInt8} (h : RdS s w u l) (x : w.grownBy w' s) : RdS s w' u l := by
  obtain ⟨⟨A, c, rfl, h1, h2, ha⟩, hs⟩ := h
  refine ⟨⟨A, c, rfl, h1, h2, fun hp => ?_⟩, hs⟩
  obtain ⟨b, o, rfl, hb, hc⟩ := ha hp
  have hne : some b ≠ s := fun e => hs hp b e.symm (by simp [Value.ownBlock])
  have hblk := x.block b hb hne
  refine ⟨b, o, rfl, ?_, fun j hj => ?_⟩
  · rw [Array.getElem?_eq_getElem hb] at hblk
    exact (Array.getElem?_eq_some_iff.1 hblk).1
  · rw [← hc j hj]
    unfold World.cell?
    simp only [hblk]
theorem RdS.nx {s : Option Nat} {w w' : World} {u : Value} {l : List UInt8} (h : RdS s w u l) (x : Nx w w') : RdS s w' u l := ⟨h.1.nx x, h.2⟩
theorem RdS.free {s : Option Nat} {w : World} {u : Value} {l : List UInt8} (h : RdS s w u l) : RdS none w u l := ⟨h.1, fun _ q hq => by cases hq⟩
theorem RdS.apart {s : Option Nat} {w : World} {u : Value} {l : List UInt8} (h : RdS none w u l) (hs : ∀ q, s = some q → w.heap.size ≤ q) : RdS s w u l := ⟨h.1, fun hp q hq he => by
  obtain ⟨A, c, rfl, h1, h2, ha⟩ := h.1
  obtain ⟨b, o, rfl, hb, hc⟩ := ha hp
  have : b = q := by simpa [Value.ownBlock] using he
  have := hs q hq
  omega⟩
theorem RdS.sl {s : Option Nat} {w : World} {u : Value} {l : List UInt8} (h : RdS s w u l) : ∃ A c, u = .slice A l.length c := by
  obtain ⟨⟨A, c, rfl, _⟩, _⟩ := h
  exact ⟨A, c, rfl⟩
end Go.Proofs.YtjbeemoobmagnaaDoor
