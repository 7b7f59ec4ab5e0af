/- TEXTS OF OUR OWN, IN ONE FILE. -/
import Derived.Test.YtpijehaciomkhaaDoorTq
section
namespace Go.Proofs.YtpijehaciomkhaaDoor
open Go Go.RowKit
set_option linter.unusedVariables false
set_option linter.unusedSimpArgs false
set_option linter.unusedVariables false
set_option linter.unusedSimpArgs false

section
variable {l : List UInt8} {at_ : Int}
theorem tg_a {c : Int} (h : (lsO (inT l) (cnT l at_ 16)).2.2 = c) (hc : c ≠ 0) : tgT l at_ = (txZ, 0, c) := by
  unfold tgT; rw [h, if_pos hc]
theorem tg_b {TL : List Inp} {TP c : Int} (h : lsO (inT l) (cnT l at_ 16) = (TL, TP, 0)) (h2 : (lsO (otT l) (cnT l TP 16)).2.2 = c) (hc : c ≠ 0) : tgT l at_ = (txZ, 0, c) := by
  unfold tgT; rw [h]; dsimp only; rw [if_neg (by simp), h2, if_pos hc]
theorem tg_c {TL : List Inp} {UL : List Outp} {TP UP c : Int} (h : lsO (inT l) (cnT l at_ 16) = (TL, TP, 0)) (h2 : lsO (otT l) (cnT l TP 16) = (UL, UP, 0)) (h3 : getE l.length UP 4 = c) (hc : c ≠ 0) : tgT l at_ = (txZ, 0, c) := by
  unfold tgT; rw [h]; dsimp only; rw [if_neg (by simp), h2]; dsimp only; rw [if_neg (by simp), h3, if_pos hc]
theorem tg_d {TL : List Inp} {UL : List Outp} {TP UP : Int} (h : lsO (inT l) (cnT l at_ 16) = (TL, TP, 0)) (h2 : lsO (otT l) (cnT l TP 16) = (UL, UP, 0)) (h3 : getE l.length UP 4 = 0) (hx : 8000 < UP + 4 - at_) : tgT l at_ = (txZ, 0, 3) := by
  unfold tgT; rw [h]; dsimp only; rw [if_neg (by simp), h2]; dsimp only; rw [if_neg (by simp), h3, if_neg (by simp), if_pos hx]
theorem tg_e {TL : List Inp} {UL : List Outp} {TP UP : Int} (h : lsO (inT l) (cnT l at_ 16) = (TL, TP, 0)) (h2 : lsO (otT l) (cnT l TP 16) = (UL, UP, 0)) (h3 : getE l.length UP 4 = 0) (hx : ¬ 8000 < UP + 4 - at_) : tgT l at_ = (⟨TL, UL, getN l UP 4⟩, UP + 4, 0) := by
  unfold tgT; rw [h]; dsimp only; rw [if_neg (by simp), h2]; dsimp only; rw [if_neg (by simp), h3, if_neg (by simp), if_neg hx]
theorem ls_bad {α : Type} {f : Int → α × Int × Int} {p c : Int} (h : (gc l p).2.2 = c) (hc : c ≠ 0) : (lsO f (cnT l p 16)).2.2 = c := by
  have e : cnT l p 16 = (0, p, c) := by unfold cnT; rw [h, if_pos hc]
  unfold lsO; rw [e]; dsimp only; rw [if_pos hc]
theorem ls_lim {α : Type} {f : Int → α × Int × Int} {p : Int} (h : (gc l p).2.2 = 0) (hc : 16 < (gc l p).1) : (lsO f (cnT l p 16)).2.2 = 3 := by
  have e : cnT l p 16 = (0, p, 3) := by unfold cnT; rw [h, if_neg (by simp), if_pos hc]
  unfold lsO; rw [e]; rfl
theorem ls_ok {α : Type} {f : Int → α × Int × Int} {p : Int} (h : (gc l p).2.2 = 0) (hc : ¬ 16 < (gc l p).1) : lsO f (cnT l p 16) = lsT f (gc l p).1 (gc l p).2.1 := by
  have e : cnT l p 16 = ((gc l p).1, (gc l p).2.1, 0) := by unfold cnT; rw [h, if_neg (by simp), if_neg hc]
  unfold lsO; rw [e]; dsimp only; rw [if_neg (by simp)]
theorem inT_bad1 {q : Int} (h : gpE l q ≠ 0) : (inT l q).2.2 = gpE l q := by unfold inT; rw [if_pos h]
theorem inT_bad2 {q : Int} (h : gpE l q = 0) (h2 : (gr l (gpP l q) 3000).2.2 ≠ 0) : (inT l q).2.2 = (gr l (gpP l q) 3000).2.2 := by unfold inT; rw [if_neg (by simp [h]), if_pos h2]
theorem inT_good {q : Int} (h : gpE l q = 0) (h2 : (gr l (gpP l q) 3000).2.2 = 0) : inT l q = (⟨gpX l q, gpN l q, gpH l q, (gr l (gpP l q) 3000).1⟩, (gr l (gpP l q) 3000).2.1, 0) := by unfold inT; rw [if_neg (by simp [h]), if_neg (by simp [h2])]
theorem otT_bad {q : Int} (h : (goT l q).2.2.2 ≠ 0) : (otT l q).2.2 = (goT l q).2.2.2 := by unfold otT; rw [if_pos h]
theorem otT_good {q : Int} (h : (goT l q).2.2.2 = 0) : otT l q = (⟨(goT l q).1, (goT l q).2.1⟩, (goT l q).2.2.1, 0) := by unfold otT; rw [if_neg (by simp [h])]
end
theorem info_in3 : (Tryd.prog.info? 45).map (fun i => (i.zero, i.size, i.bytes)) = some (some (.agg (icel inZ (.slice none 0 0))), 35, 64) := by kernel_rfl
theorem info_out3 : (Tryd.prog.info? 48).map (fun i => (i.zero, i.size, i.bytes)) = some (some (.agg #[.int .u64 0, .slice none 0 0]), 2, 32) := by kernel_rfl
theorem built_in1 (x0 x1 x2 x3 x4 x5 x6 x7 x8 x9 x10 x11 x12 x13 x14 x15 x16 x17 x18 x19 x20 x21 x22 x23 x24 x25 x26 x27 x28 x29 x30 x31 : UInt8) (n h : Nat) (u : List UInt8) (A : Option Addr) (k c : Nat) (w : World) :
    (Instr.buildSlice 36 1 #[(0, .agg (icel ⟨[x0, x1, x2, x3, x4, x5, x6, x7, x8, x9, x10, x11, x12, x13, x14, x15, x16, x17, x18, x19, x20, x21, x22, x23, x24, x25, x26, x27, x28, x29, x30, x31], n, h, u⟩ (.slice A k c)))]).run Tryd.prog w = .ok (.slice (some ⟨w.heap.size, 0, none⟩) 1 1) (w.alloc (.cells (icel ⟨[x0, x1, x2, x3, x4, x5, x6, x7, x8, x9, x10, x11, x12, x13, x14, x15, x16, x17, x18, x19, x20, x21, x22, x23, x24, x25, x26, x27, x28, x29, x30, x31], n, h, u⟩ (.slice A k c)) 45)) := by kernel_rfl
theorem run_mkin (i : Inp) (hi : InOk i) (A : Option Addr) (k c : Nat) (w : World) : (Instr.buildSlice 36 1 #[(0, .agg (icel i (.slice A k c)))]).run Tryd.prog w = .ok (.slice (some ⟨w.heap.size, 0, none⟩) 1 1) (w.alloc (.cells (icel i (.slice A k c)) 45)) := by
  obtain ⟨tx, n, h, u⟩ := i
  obtain ⟨x0, x1, x2, x3, x4, x5, x6, x7, x8, x9, x10, x11, x12, x13, x14, x15, x16, x17, x18, x19, x20, x21, x22, x23, x24, x25, x26, x27, x28, x29, x30, x31, rfl⟩ := list32 tx hi.1
  exact built_in1 x0 x1 x2 x3 x4 x5 x6 x7 x8 x9 x10 x11 x12 x13 x14 x15 x16 x17 x18 x19 x20 x21 x22 x23 x24 x25 x26 x27 x28 x29 x30 x31 n h u A k c w
theorem wpList_mkin {w : World} {ops : Array Oper} {rest : List Oper} {o : Oper} {a : Act} {Q : Exit → Act → World → Prop} (hgd : o.guard = none) (x : Operand) (ho : o.op = .buildSlice 36 1 #[(0, x)]) (i : Inp) (hi : InOk i) (A : Option Addr) (k c : Nat) (hx : a.eval x = .agg (icel i (.slice A k c)))
    (h : wpList Tryd.prog ops Q rest (a.put o.dst (.slice (some ⟨w.heap.size, 0, none⟩) 1 1)) (w.alloc (.cells (icel i (.slice A k c)) 45))) : wpList Tryd.prog ops Q (o :: rest) a w := by
  refine wpList_plain hgd fun K hK => ?_
  unfold Oper.wp execOp
  simp only [ho, List.map_toArray, List.map_cons, List.map_nil, hx, Sem.run_bind, run_mkin i hi A k c w, Result.andThen_ok, Sem.run_pure]
  exact hK _ _ h
theorem rdF_one {E : TypeId} {k : Nat} {w : World} {cs : List Value} (hl : cs.length = k) (h1 : ∀ u ∈ cs, u.oneCell' = true) : RdF k (w.alloc (.cells cs.toArray E)) (.slice (some ⟨w.heap.size, 0, none⟩) 1 1) 1 cs := by
  have R := Row.new w cs.toArray E _ rfl
  refine ⟨by omega, h1, _, _, rfl, Nat.le_refl _, by decide, fun _ => ⟨_, _, rfl, R.lt, fun j hj => ?_⟩⟩
  rw [Nat.zero_add]
  exact R.cell (by rw [List.getElem?_toArray]; exact List.getElem?_eq_getElem hj)
/-- Inputs whose unlocks lie in other blocks than K. -/
def inElK (K : Nat) : El Inp where
  E := 45
  k := 35
  pos := by decide
  rd := fun s w cs a => ∃ u, cs = icl a u ∧ InOk a ∧ RdS s w u a.u ∧ (0 < a.u.length → ∀ q, u.ownBlock = some q → K < q)
  len := by rintro s w cs a ⟨u, rfl, h, _⟩; exact icl_length a u h
  one := by
    rintro s w cs a ⟨u, rfl, h0, h, _⟩ x hx
    exact inEl.one (s := s) (w := w) (a := a) ⟨u, rfl, h0, h⟩ x hx
  nx := by rintro s w w' cs a ⟨u, rfl, k, h, k2⟩ x; exact ⟨u, rfl, k, h.nx x, k2⟩
  grown := by rintro s w w' cs a ⟨u, rfl, k, h, k2⟩ x; exact ⟨u, rfl, k, h.grown x, k2⟩
  free := by rintro s w cs a ⟨u, rfl, k, h, k2⟩; exact ⟨u, rfl, k, h.free, k2⟩
  apart := by rintro s w cs a ⟨u, rfl, k, h, k2⟩ hs; exact ⟨u, rfl, k, h.apart hs, k2⟩
def outElK (K : Nat) : El Outp where
  E := 48
  k := 2
  pos := by decide
  rd := fun s w cs a => ∃ u, cs = [.int .u64 (a.v : Int), u] ∧ a.v ≤ 18446744073709551615 ∧ RdS s w u a.l ∧ (0 < a.l.length → ∀ q, u.ownBlock = some q → K < q)
  len := by rintro s w cs a ⟨u, rfl, h, _⟩; rfl
  one := by
    rintro s w cs a ⟨u, rfl, h0, h, _⟩ x hx
    exact outEl.one (s := s) (w := w) (a := a) ⟨u, rfl, h0, h⟩ x hx
  nx := by rintro s w w' cs a ⟨u, rfl, k, h, k2⟩ x; exact ⟨u, rfl, k, h.nx x, k2⟩
  grown := by rintro s w w' cs a ⟨u, rfl, k, h, k2⟩ x; exact ⟨u, rfl, k, h.grown x, k2⟩
  free := by rintro s w cs a ⟨u, rfl, k, h, k2⟩; exact ⟨u, rfl, k, h.free, k2⟩
  apart := by rintro s w cs a ⟨u, rfl, k, h, k2⟩ hs; exact ⟨u, rfl, k, h.apart hs, k2⟩
theorem inK_plain {K B : Nat} {w : World} {v : Value} {es : List Inp} (h : OwnE (inElK K) B w v es) : OwnE inEl B w v es := by
  obtain ⟨fs, h1, h2⟩ := h
  exact ⟨fs, h1, h2.1, fun j hj => by obtain ⟨u, a, b, c, _⟩ := h2.2 j hj; exact ⟨u, a, b, c⟩⟩
theorem outK_plain {K B : Nat} {w : World} {v : Value} {es : List Outp} (h : OwnE (outElK K) B w v es) : OwnE outEl B w v es := by
  obtain ⟨fs, h1, h2⟩ := h
  exact ⟨fs, h1, h2.1, fun j hj => by obtain ⟨u, a, b, c, _⟩ := h2.2 j hj; exact ⟨u, a, b, c⟩⟩
theorem ownF_beside {E : TypeId} {k K B : Nat} {w w' : World} {v : Value} {n : Nat} {fs : List Value} (h : OwnF E k B w v n fs) (hB : K < B) (x : w.grownBy w' (some K)) : OwnF E k B w' v n fs := by
  obtain ⟨h0, h2⟩ := h
  refine ⟨h0, ?_⟩
  rcases h2 with h2 | ⟨g, c, full, rfl, hb, hg, rest⟩
  · exact .inl h2
  · exact .inr ⟨g, c, full, rfl, hb, by rw [x.block g (Array.getElem?_eq_some_iff.1 hg).1 (by intro e; injection e with e; omega)]; exact hg, rest⟩
theorem rdS_beside {K : Nat} {s : Option Nat} {w w' : World} {u : Value} {l : List UInt8} (hr : RdS s w u l) (hk : 0 < l.length → u.ownBlock ≠ some K) (x : w.grownBy w' (some K)) : RdS s w' u l :=
  ⟨(RdS.grown (s := some K) ⟨hr.1, fun hp q hq => by injection hq with hq; subst hq; exact hk hp⟩ x).1, hr.2⟩
theorem inK_under {K J B : Nat} {w w' : World} {v : Value} {es : List Inp} (h : OwnE (inElK K) B w v es) (hB : K < B) (hJ : J ≤ K) (x : w.grownBy w' (some J)) : OwnE (inElK K) B w' v es := by
  obtain ⟨fs, h1, h3⟩ := h
  refine ⟨fs, ownF_beside h1 (Nat.lt_of_le_of_lt hJ hB) x, h3.1, fun j hj => ?_⟩
  obtain ⟨u, e, b, hr, hk⟩ := h3.2 j hj
  exact ⟨u, e, b, rdS_beside hr (fun hp he => by have := hk hp J he; omega) x, hk⟩
theorem inK_beside {K B : Nat} {w w' : World} {v : Value} {es : List Inp} (h : OwnE (inElK K) B w v es) (hB : K < B) (x : w.grownBy w' (some K)) : OwnE (inElK K) B w' v es := inK_under h hB (Nat.le_refl _) x
theorem outK_under {K J B : Nat} {w w' : World} {v : Value} {es : List Outp} (h : OwnE (outElK K) B w v es) (hB : K < B) (hJ : J ≤ K) (x : w.grownBy w' (some J)) : OwnE (outElK K) B w' v es := by
  obtain ⟨fs, h1, h3⟩ := h
  refine ⟨fs, ownF_beside h1 (Nat.lt_of_le_of_lt hJ hB) x, h3.1, fun j hj => ?_⟩
  obtain ⟨u, e, b, hr, hk⟩ := h3.2 j hj
  exact ⟨u, e, b, rdS_beside hr (fun hp he => by have := hk hp J he; omega) x, hk⟩
theorem outK_beside {K B : Nat} {w w' : World} {v : Value} {es : List Outp} (h : OwnE (outElK K) B w v es) (hB : K < B) (x : w.grownBy w' (some K)) : OwnE (outElK K) B w' v es := outK_under h hB (Nat.le_refl _) x
theorem inK_one {K C : Nat} {w : World} {v uv : Value} {i : Inp} (hi : InOk i) (ho : Own C w uv i.u) (hK : K < C) (hv : ∀ q, v.ownBlock = some q → q < C) : AllE (inElK K) v.ownBlock w (icl i uv) [i] :=
  AllE.single ⟨uv, rfl, hi, ⟨ho.rd, fun _ q hq he => by
    have h1 := hv q hq
    have h2 := ho.block q he
    omega⟩, fun _ q he => by
    have h2 := ho.block q he
    omega⟩
theorem outK_one {K C : Nat} {w : World} {v uv : Value} {o : Outp} (hi : OutOk o) (ho : Own C w uv o.l) (hK : K < C) (hv : ∀ q, v.ownBlock = some q → q < C) : AllE (outElK K) v.ownBlock w [.int .u64 (o.v : Int), uv] [o] :=
  AllE.single ⟨uv, rfl, hi, ⟨ho.rd, fun _ q hq he => by
    have h1 := hv q hq
    have h2 := ho.block q he
    omega⟩, fun _ q he => by
    have h2 := ho.block q he
    omega⟩
theorem ownE_sl {α : Type} {L : El α} {B : Nat} {w : World} {v : Value} {es : List α} (h : OwnE L B w v es) : ∃ A c, v = .slice A es.length c := by
  obtain ⟨fs, ⟨_, h2 | ⟨g, cc, full, h2, _⟩⟩, _⟩ := h
  · obtain ⟨h1, h2⟩ := h2
    exact ⟨none, 0, by rw [h2]; exact h1⟩
  · exact ⟨_, _, h2⟩
theorem row_beneath {B g : Nat} {w w' : World} {cs : Array Value} {t : TypeId} (h : Row w g cs t) (hb : Below B w w') (hg : g < B) : Row w' g cs t := (hb.block g hg).trans h
theorem gr_beneath {K B : Nat} {a w w' : World} (h : a.grownBy w (some K)) (hb : Below B w w') (hB : a.heap.size ≤ B) : a.grownBy w' (some K) :=
  ⟨hb.os.trans h.os, hb.tape.trans h.tape, hb.output.trans h.output, Nat.le_trans h.size hb.size, fun k hk hne => (hb.block k (by omega)).trans (h.block k hk hne)⟩
theorem goV_ok {l : List UInt8} {q : Int} : (goT l q).1 ≤ 18446744073709551615 := by
  by_cases h : (goT l q).2.2.2 = 0
  · have := otT_ok l q
    rw [otT_good h] at this
    exact this
  · unfold goT at h ⊢
    split
    · exact Nat.zero_le _
    · rename_i h1
      rw [if_neg h1] at h
      split
      · exact Nat.zero_le _
      · rename_i h2
        rw [if_neg h2] at h
        exact absurd rfl h
/-- Memory from block B on stays. -/
structure Above (B : Nat) (w w' : World) : Prop where
  os : w'.os = w.os
  tape : w'.tape = w.tape
  output : w'.output = w.output
  size : w.heap.size ≤ w'.heap.size
  block : ∀ k, B ≤ k → k < w.heap.size → w'.heap[k]? = w.heap[k]?
theorem Above.of_nx {B : Nat} {w w' : World} (h : Nx w w') : Above B w w' := ⟨h.os, h.tape, h.output, h.size, fun k _ hk => h.block k hk⟩
theorem Above.of_gr {B J : Nat} {w w' : World} (h : w.grownBy w' (some J)) (hJ : J < B) : Above B w w' := ⟨h.os, h.tape, h.output, h.size, fun k hb hk => h.block k hk (fun e => by have := Option.some.inj e; omega)⟩
theorem Above.trans {B : Nat} {a b c : World} (h : Above B a b) (k : Above B b c) : Above B a c := ⟨k.os.trans h.os, k.tape.trans h.tape, k.output.trans h.output, Nat.le_trans h.size k.size, fun i hb hi => (k.block i hb (Nat.lt_of_lt_of_le hi h.size)).trans (h.block i hb hi)⟩
theorem Above.mono {B B' : Nat} {a b : World} (h : Above B a b) (k : B ≤ B') : Above B' a b := ⟨h.os, h.tape, h.output, h.size, fun i hb hi => h.block i (Nat.le_trans k hb) hi⟩
theorem Above.cell {B : Nat} {a b : World} (h : Above B a b) {p : Addr} (h1 : B ≤ p.block) (h2 : p.block < a.heap.size) : b.cell? p = a.cell? p := by
  unfold World.cell?
  rw [h.block p.block h1 h2]
theorem Above.rd {B : Nat} {a b : World} {u : Value} {l : List UInt8} (x : Above B a b) (h : Rd a u l) (hb : 0 < l.length → ∀ q, u.ownBlock = some q → B ≤ q) : Rd b u l := by
  obtain ⟨A, c, rfl, h1, h2, h3⟩ := h
  refine ⟨A, c, rfl, h1, h2, fun hp => ?_⟩
  obtain ⟨g, o, rfl, hg, hc⟩ := h3 hp
  have hB := hb hp g rfl
  exact ⟨g, o, rfl, Nat.lt_of_lt_of_le hg x.size, fun j hj => by rw [← hc j hj]; exact x.cell (p := ⟨g, o + j, none⟩) hB hg⟩
theorem Above.rdS {B : Nat} {s : Option Nat} {a b : World} {u : Value} {l : List UInt8} (x : Above B a b) (h : RdS s a u l) (hb : 0 < l.length → ∀ q, u.ownBlock = some q → B ≤ q) : RdS s b u l := ⟨x.rd h.1 hb, h.2⟩
theorem Above.ownF {E : TypeId} {k B C : Nat} {w w' : World} {v : Value} {n : Nat} {fs : List Value} (x : Above C w w') (h : OwnF E k B w v n fs) (hB : C ≤ B) : OwnF E k B w' v n fs := by
  obtain ⟨h0, h2⟩ := h
  refine ⟨h0, ?_⟩
  rcases h2 with h2 | ⟨g, c, full, rfl, hb, hg, rest⟩
  · exact .inl h2
  · exact .inr ⟨g, c, full, rfl, hb, by rw [x.block g (Nat.le_trans hB hb) (Array.getElem?_eq_some_iff.1 hg).1]; exact hg, rest⟩
theorem inK_above {K B C : Nat} {w w' : World} {v : Value} {es : List Inp} (h : OwnE (inElK K) B w v es) (hB : K < B) (hC : C ≤ K + 1) (x : Above C w w') : OwnE (inElK K) B w' v es := by
  obtain ⟨fs, h1, h3⟩ := h
  refine ⟨fs, x.ownF h1 (by omega), h3.1, fun j hj => ?_⟩
  obtain ⟨u, e, b, hr, hk⟩ := h3.2 j hj
  exact ⟨u, e, b, x.rdS hr (fun hp q hq => by have := hk hp q hq; omega), hk⟩
theorem outK_above {K B C : Nat} {w w' : World} {v : Value} {es : List Outp} (h : OwnE (outElK K) B w v es) (hB : K < B) (hC : C ≤ K + 1) (x : Above C w w') : OwnE (outElK K) B w' v es := by
  obtain ⟨fs, h1, h3⟩ := h
  refine ⟨fs, x.ownF h1 (by omega), h3.1, fun j hj => ?_⟩
  obtain ⟨u, e, b, hr, hk⟩ := h3.2 j hj
  exact ⟨u, e, b, x.rdS hr (fun hp q hq => by have := hk hp q hq; omega), hk⟩
/-- What is got lies in no block below B: those may be written. -/
def TxFree (B : Nat) (w : World) (iv ov : Value) (t : Txn) : Prop := TxAt w iv ov t ∧ ∀ W, Above B w W → TxAt W iv ov t
theorem TxFree.z (B : Nat) (w : World) : TxFree B w (.slice none 0 0) (.slice none 0 0) txZ := ⟨txAt_z _, fun _ _ => txAt_z _⟩
theorem TxFree.nx {B : Nat} {w w' : World} {iv ov : Value} {t : Txn} (h : TxFree B w iv ov t) (k : Nx w w') : TxFree B w' iv ov t := ⟨h.1.nx k, fun W x => h.2 W ((Above.of_nx k).trans x)⟩
theorem TxFree.above {B : Nat} {w w' : World} {iv ov : Value} {t : Txn} (h : TxFree B w iv ov t) (k : Above B w w') : TxFree B w' iv ov t := ⟨h.2 _ k, fun W x => h.2 W (k.trans x)⟩
theorem TxFree.gr {B J : Nat} {w w' : World} {iv ov : Value} {t : Txn} (h : TxFree B w iv ov t) (hJ : J < B) (k : w.grownBy w' (some J)) : TxAt w' iv ov t := h.2 _ (Above.of_gr k hJ)
theorem inzsz : (Value.agg (icel inZ (.slice none 0 0))).cells.size = 35 := by kernel_rfl
end Go.Proofs.YtpijehaciomkhaaDoor
end

section
namespace Go.Proofs.YtpijehaciomkhaaDoor
open Go Go.RowKit
set_option linter.unusedVariables false
set_option linter.unusedSimpArgs false
set_option linter.unusedVariables false
set_option linter.unusedSimpArgs false

end Go.Proofs.YtpijehaciomkhaaDoor
end

section
namespace Go.Proofs.YtpijehaciomkhaaDoor
open Go Go.RowKit
set_option linter.unusedVariables false
set_option linter.unusedSimpArgs false

theorem tgT_le {l : List UInt8} {at_ : Int} (h : (tgT l at_).2.2 = 0) : (tgT l at_).2.1 ≤ l.length := by
  rcases hT : lsO (inT l) (cnT l at_ 16) with ⟨TL, TP, TE⟩
  by_cases hE : TE = 0
  · subst hE
    rcases hU : lsO (otT l) (cnT l TP 16) with ⟨UL, UP, UE⟩
    by_cases hE2 : UE = 0
    · subst hE2
      by_cases hg : getE l.length UP 4 = 0
      · by_cases hx : 8000 < UP + 4 - at_
        · rw [tg_d hT hU hg hx] at h; cases h
        · rw [tg_e hT hU hg hx]; have := getE_ok hg; show UP + 4 ≤ _; omega
      · rw [tg_c hT hU rfl hg] at h; exact absurd h hg
    · rw [tg_b (c := UE) hT (by rw [hU]) hE2] at h; exact absurd h hE2
  · rw [tg_a (c := TE) (by rw [hT]) hE] at h; exact absurd h hE
end Go.Proofs.YtpijehaciomkhaaDoor
end
