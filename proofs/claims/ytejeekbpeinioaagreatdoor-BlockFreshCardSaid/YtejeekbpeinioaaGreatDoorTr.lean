/- TEXTS OF OUR OWN, IN ONE FILE. -/
import Derived.Test.YtejeekbpeinioaaGreatDoorTq
section
namespace Go.Proofs.YtejeekbpeinioaaGreatDoor
open Go Go.RowKit
set_option linter.unusedVariables false
set_option linter.unusedSimpArgs false
set_option linter.unusedVariables false
set_option linter.unusedSimpArgs false

section
variable {l : List UInt8} {at_ : Int}
theorem tg_a {c : Int} (h : (lsO (inT l) (cnT l at_ 16)).2.2 = c) (hc : c ≠ 0) : tgT l at_ = (txZ, 0, c) := by
  unfold tgT; rw [h, if_pos hc]
theorem tg_b {TL : List Inp} {TP c : Int} (h : lsO (inT l) (cnT l at_ 16) = (TL, TP, 0)) (h2 : (lsO (otT l) (cnT l TP 16)).2.2 = c) (hc : c ≠ 0) : tgT l at_ = (txZ, 0, c) := by
  unfold tgT; rw [h]; dsimp only; rw [if_neg (by simp), h2, if_pos hc]
theorem tg_c {TL : List Inp} {UL : List Outp} {TP UP c : Int} (h : lsO (inT l) (cnT l at_ 16) = (TL, TP, 0)) (h2 : lsO (otT l) (cnT l TP 16) = (UL, UP, 0)) (h3 : getE l.length UP 4 = c) (hc : c ≠ 0) : tgT l at_ = (txZ, 0, c) := by
  unfold tgT; rw [h]; dsimp only; rw [if_neg (by simp), h2]; dsimp only; rw [if_neg (by simp), h3, if_pos hc]
theorem tg_d {TL : List Inp} {UL : List Outp} {TP UP : Int} (h : lsO (inT l) (cnT l at_ 16) = (TL, TP, 0)) (h2 : lsO (otT l) (cnT l TP 16) = (UL, UP, 0)) (h3 : getE l.length UP 4 = 0) (hx : 8000 < UP + 4 - at_) : tgT l at_ = (txZ, 0, 3) := by
  unfold tgT; rw [h]; dsimp only; rw [if_neg (by simp), h2]; dsimp only; rw [if_neg (by simp), h3, if_neg (by simp), if_pos hx]
theorem tg_e {TL : List Inp} {UL : List Outp} {TP UP : Int} (h : lsO (inT l) (cnT l at_ 16) = (TL, TP, 0)) (h2 : lsO (otT l) (cnT l TP 16) = (UL, UP, 0)) (h3 : getE l.length UP 4 = 0) (hx : ¬ 8000 < UP + 4 - at_) : tgT l at_ = (⟨TL, UL, getN l UP 4⟩, UP + 4, 0) := by
  unfold tgT; rw [h]; dsimp only; rw [if_neg (by simp), h2]; dsimp only; rw [if_neg (by simp), h3, if_neg (by simp), if_neg hx]
theorem ls_bad {α : Type} {f : Int → α × Int × Int} {p c : Int} (h : (gc l p).2.2 = c) (hc : c ≠ 0) : (lsO f (cnT l p 16)).2.2 = c := by
  have e : cnT l p 16 = (0, p, c) := by unfold cnT; rw [h, if_pos hc]
  unfold lsO; rw [e]; dsimp only; rw [if_pos hc]
theorem ls_lim {α : Type} {f : Int → α × Int × Int} {p : Int} (h : (gc l p).2.2 = 0) (hc : 16 < (gc l p).1) : (lsO f (cnT l p 16)).2.2 = 3 := by
  have e : cnT l p 16 = (0, p, 3) := by unfold cnT; rw [h, if_neg (by simp), if_pos hc]
  unfold lsO; rw [e]; rfl
theorem ls_ok {α : Type} {f : Int → α × Int × Int} {p : Int} (h : (gc l p).2.2 = 0) (hc : ¬ 16 < (gc l p).1) : lsO f (cnT l p 16) = lsT f (gc l p).1 (gc l p).2.1 := by
  have e : cnT l p 16 = ((gc l p).1, (gc l p).2.1, 0) := by unfold cnT; rw [h, if_neg (by simp), if_neg hc]
  unfold lsO; rw [e]; dsimp only; rw [if_neg (by simp)]
theorem inT_bad1 {q : Int} (h : gpE l q ≠ 0) : (inT l q).2.2 = gpE l q := by unfold inT; rw [if_pos h]
theorem inT_bad2 {q : Int} (h : gpE l q = 0) (h2 : (gr l (gpP l q) 3000).2.2 ≠ 0) : (inT l q).2.2 = (gr l (gpP l q) 3000).2.2 := by unfold inT; rw [if_neg (by simp [h]), if_pos h2]
theorem inT_good {q : Int} (h : gpE l q = 0) (h2 : (gr l (gpP l q) 3000).2.2 = 0) : inT l q = (⟨gpX l q, gpN l q, gpH l q, (gr l (gpP l q) 3000).1⟩, (gr l (gpP l q) 3000).2.1, 0) := by unfold inT; rw [if_neg (by simp [h]), if_neg (by simp [h2])]
theorem otT_bad {q : Int} (h : (goT l q).2.2.2 ≠ 0) : (otT l q).2.2 = (goT l q).2.2.2 := by unfold otT; rw [if_pos h]
theorem otT_good {q : Int} (h : (goT l q).2.2.2 = 0) : otT l q = (⟨(goT l q).1, (goT l q).2.1⟩, (goT l q).2.2.1, 0) := by unfold otT; rw [if_neg (by simp [h])]
end
theorem info_in3 : (Tryz.prog.info? 59).map (fun i => (i.zero, i.size, i.bytes)) = some (some (.agg (icel inZ (.slice none 0 0))), 35, 64) := by kernel_rfl
theorem info_out3 : (Tryz.prog.info? 62).map (fun i => (i.zero, i.size, i.bytes)) = some (some (.agg #[.int .u64 0, .slice none 0 0]), 2, 32) := by kernel_rfl
theorem built_in1 (x0 x1 x2 x3 x4 x5 x6 x7 x8 x9 x10 x11 x12 x13 x14 x15 x16 x17 x18 x19 x20 x21 x22 x23 x24 x25 x26 x27 x28 x29 x30 x31 : UInt8) (n h : Nat) (u : List UInt8) (A : Option Addr) (k c : Nat) (w : World) :
    (Instr.buildSlice 51 1 #[(0, .agg (icel ⟨[x0, x1, x2, x3, x4, x5, x6, x7, x8, x9, x10, x11, x12, x13, x14, x15, x16, x17, x18, x19, x20, x21, x22, x23, x24, x25, x26, x27, x28, x29, x30, x31], n, h, u⟩ (.slice A k c)))]).run Tryz.prog w = .ok (.slice (some ⟨w.heap.size, 0, none⟩) 1 1) (w.alloc (.cells (icel ⟨[x0, x1, x2, x3, x4, x5, x6, x7, x8, x9, x10, x11, x12, x13, x14, x15, x16, x17, x18, x19, x20, x21, x22, x23, x24, x25, x26, x27, x28, x29, x30, x31], n, h, u⟩ (.slice A k c)) 59)) := by kernel_rfl
theorem run_mkin (i : Inp) (hi : InOk i) (A : Option Addr) (k c : Nat) (w : World) : (Instr.buildSlice 51 1 #[(0, .agg (icel i (.slice A k c)))]).run Tryz.prog w = .ok (.slice (some ⟨w.heap.size, 0, none⟩) 1 1) (w.alloc (.cells (icel i (.slice A k c)) 59)) := by
  obtain ⟨tx, n, h, u⟩ := i
  obtain ⟨x0, x1, x2, x3, x4, x5, x6, x7, x8, x9, x10, x11, x12, x13, x14, x15, x16, x17, x18, x19, x20, x21, x22, x23, x24, x25, x26, x27, x28, x29, x30, x31, rfl⟩ := list32 tx hi.1
  exact built_in1 x0 x1 x2 x3 x4 x5 x6 x7 x8 x9 x10 x11 x12 x13 x14 x15 x16 x17 x18 x19 x20 x21 x22 x23 x24 x25 x26 x27 x28 x29 x30 x31 n h u A k c w
theorem wpList_mkin {w : World} {ops : Array Oper} {rest : List Oper} {o : Oper} {a : Act} {Q : Exit → Act → World → Prop} (hgd : o.guard = none) (x : Operand) (ho : o.op = .buildSlice 51 1 #[(0, x)]) (i : Inp) (hi : InOk i) (A : Option Addr) (k c : Nat) (hx : a.eval x = .agg (icel i (.slice A k c)))
    (h : wpList Tryz.prog ops Q rest (a.put o.dst (.slice (some ⟨w.heap.size, 0, none⟩) 1 1)) (w.alloc (.cells (icel i (.slice A k c)) 59))) : wpList Tryz.prog ops Q (o :: rest) a w := by
  refine wpList_plain hgd fun K hK => ?_
  unfold Oper.wp execOp
  simp only [ho, List.map_toArray, List.map_cons, List.map_nil, hx, Sem.run_bind, run_mkin i hi A k c w, Result.andThen_ok, Sem.run_pure]
  exact hK _ _ h
theorem rdF_one {E : TypeId} {k : Nat} {w : World} {cs : List Value} (hl : cs.length = k) (h1 : ∀ u ∈ cs, u.oneCell' = true) : RdF k (w.alloc (.cells cs.toArray E)) (.slice (some ⟨w.heap.size, 0, none⟩) 1 1) 1 cs := by
  have R := Row.new w cs.toArray E _ rfl
  refine ⟨by omega, h1, _, _, rfl, Nat.le_refl _, by decide, fun _ => ⟨_, _, rfl, R.lt, fun j hj => ?_⟩⟩
  rw [Nat.zero_add]
  exact R.cell (by rw [List.getElem?_toArray]; exact List.getElem?_eq_getElem hj)
/-- Inputs whose unlocks lie in other blocks than K. -/
def inElK (K : Nat) : El Inp where
  E := 59
  k := 35
  pos := by decide
  rd := fun s w cs a => ∃ u, cs = icl a u ∧ InOk a ∧ RdS s w u a.u ∧ (0 < a.u.length → ∀ q, u.ownBlock = some q → K < q)
  len := by rintro s w cs a ⟨u, rfl, h, _⟩; exact icl_length a u h
  one := by
    rintro s w cs a ⟨u, rfl, h0, h, _⟩ x hx
    exact inEl.one (s := s) (w := w) (a := a) ⟨u, rfl, h0, h⟩ x hx
  nx := by rintro s w w' cs a ⟨u, rfl, k, h, k2⟩ x; exact ⟨u, rfl, k, h.nx x, k2⟩
  grown := by rintro s w w' cs a ⟨u, rfl, k, h, k2⟩ x; exact ⟨u, rfl, k, h.grown x, k2⟩
  free := by rintro s w cs a ⟨u, rfl, k, h, k2⟩; exact ⟨u, rfl, k, h.free, k2⟩
  apart := by rintro s w cs a ⟨u, rfl, k, h, k2⟩ hs; exact ⟨u, rfl, k, h.apart hs, k2⟩
def outElK (K : Nat) : El Outp where
  E := 62
  k := 2
  pos := by decide
  rd := fun s w cs a => ∃ u, cs = [.int .u64 (a.v : Int), u] ∧ a.v ≤ 18446744073709551615 ∧ RdS s w u a.l ∧ (0 < a.l.length → ∀ q, u.ownBlock = some q → K < q)
  len := by rintro s w cs a ⟨u, rfl, h, _⟩; rfl
  one := by
    rintro s w cs a ⟨u, rfl, h0, h, _⟩ x hx
    exact outEl.one (s := s) (w := w) (a := a) ⟨u, rfl, h0, h⟩ x hx
  nx := by rintro s w w' cs a ⟨u, rfl, k, h, k2⟩ x; exact ⟨u, rfl, k, h.nx x, k2⟩
  grown := by rintro s w w' cs a ⟨u, rfl, k, h, k2⟩ x; exact ⟨u, rfl, k, h.grown x, k2⟩
  free := by rintro s w cs a ⟨u, rfl, k, h, k2⟩; exact ⟨u, rfl, k, h.free, k2⟩
  apart := by rintro s w cs a ⟨u, rfl, k, h, k2⟩ hs; exact ⟨u, rfl, k, h.apart hs, k2⟩
theorem inK_plain {K B : Nat} {w : World} {v : Value} {es : List Inp} (h : OwnE (inElK K) B w v es) : OwnE inEl B w v es := by
  obtain ⟨fs, h1, h2⟩ := h
  exact ⟨fs, h1, h2.1, fun j hj => by obtain ⟨u, a, b, c, _⟩ := h2.2 j hj; exact ⟨u, a, b, c⟩⟩
theorem outK_plain {K B : Nat} {w : World} {v : Value} {es : List Outp} (h : OwnE (outElK K) B w v es) : OwnE outEl B w v es := by
  obtain ⟨fs, h1, h2⟩ := h
  exact ⟨fs, h1, h2.1, fun j hj => by obtain ⟨u, a, b, c, _⟩ := h2.2 j hj; exact ⟨u, a, b, c⟩⟩
theorem ownF_beside {E : TypeId} {k K B : Nat} {w w' : World} {v : Value} {n : Nat} {fs : List Value} (h : OwnF E k B w v n fs) (hB : K < B) (x : w.grownBy w' (some K)) : OwnF E k B w' v n fs := by
  obtain ⟨h0, h2⟩ := h
  refine ⟨h0, ?_⟩
  rcases h2 with h2 | ⟨g, c, full, rfl, hb, hg, rest⟩
  · exact .inl h2
  · exact .inr ⟨g, c, full, rfl, hb, by rw [x.block g (Array.getElem?_eq_some_iff.1 hg).1 (by intro e; injection e with e; omega)]; exact hg, rest⟩
theorem rdS_beside {K : Nat} {s : Option Nat} {w w' : World} {u : Value} {l : List UInt8} (hr : RdS s w u l) (hk : 0 < l.length → u.ownBlock ≠ some K) (x : w.grownBy w' (some K)) : RdS s w' u l :=
  ⟨(RdS.grown (s := some K) ⟨hr.1, fun hp q hq => by injection hq with hq; subst hq; exact hk hp⟩ x).1, hr.2⟩
theorem inK_under {K J B : Nat} {w w' : World} {v : Value} {es : List Inp} (h : OwnE (inElK K) B w v es) (hB : K < B) (hJ : J ≤ K) (x : w.grownBy w' (some J)) : OwnE (inElK K) B w' v es := by
  obtain ⟨fs, h1, h3⟩ := h
  refine ⟨fs, ownF_beside h1 (Nat.lt_of_le_of_lt hJ hB) x, h3.1, fun j hj => ?_⟩
  obtain ⟨u, e, b, hr, hk⟩ := h3.2 j hj
  exact ⟨u, e, b, rdS_beside hr (fun hp he => by have := hk hp J he; omega) x, hk⟩
theorem inK_beside {K B : Nat} {w w' : World} {v : Value} {es : List Inp} (h : OwnE (inElK K) B w v es) (hB : K < B) (x : w.grownBy w' (some K)) : OwnE (inElK K) B w' v es := inK_under h hB (Nat.le_refl _) x
theorem outK_under {K J B : Nat} {w w' : World} {v : Value} {es : List Outp} (h : OwnE (outElK K) B w v es) (hB : K < B) (hJ : J ≤ K) (x : w.grownBy w' (some J)) : OwnE (outElK K) B w' v es := by
  obtain ⟨fs, h1, h3⟩ := h
  refine ⟨fs, ownF_beside h1 (Nat.lt_of_le_of_lt hJ hB) x, h3.1, fun j hj => ?_⟩
  obtain ⟨u, e, b, hr, hk⟩ := h3.2 j hj
  exact ⟨u, e, b, rdS_beside hr (fun hp he => by have := hk hp J he; omega) x, hk⟩
theorem outK_beside {K B : Nat} {w w' : World} {v : Value} {es : List Outp} (h : OwnE (outElK K) B w v es) (hB : K < B) (x : w.grownBy w' (some K)) : OwnE (outElK K) B w' v es := outK_under h hB (Nat.le_refl _) x
theorem inK_one {K C : Nat} {w : World} {v uv : Value} {i : Inp} (hi : InOk i) (ho : Own C w uv i.u) (hK : K < C) (hv : ∀ q, v.ownBlock = some q → q < C) : AllE (inElK K) v.ownBlock w (icl i uv) [i] :=
  AllE.single ⟨uv, rfl, hi, ⟨ho.rd, fun _ q hq he => by
    have h1 := hv q hq
    have h2 := ho.block q he
    omega⟩, fun _ q he => by
    have h2 := ho.block q he
    omega⟩
theorem outK_one {K C : Nat} {w : World} {v uv : Value} {o : Outp} (hi : OutOk o) (ho : Own C w uv o.l) (hK : K < C) (hv : ∀ q, v.ownBlock = some q → q < C) : AllE (outElK K) v.ownBlock w [.int .u64 (o.v : Int), uv] [o] :=
  AllE.single ⟨uv, rfl, hi, ⟨ho.rd, fun _ q hq he => by
    have h1 := hv q hq
    have h2 := ho.block q he
    omega⟩, fun _ q he => by
    have h2 := ho.block q he
    omega⟩
theorem ownE_sl {α : Type} {L : El α} {B : Nat} {w : World} {v : Value} {es : List α} (h : OwnE L B w v es) : ∃ A c, v = .slice A es.length c := by
  obtain ⟨fs, ⟨_, h2 | ⟨g, cc, full, h2, _⟩⟩, _⟩ := h
  · obtain ⟨h1, h2⟩ := h2
    exact ⟨none, 0, by rw [h2]; exact h1⟩
  · exact ⟨_, _, h2⟩
theorem row_beneath {B g : Nat} {w w' : World} {cs : Array Value} {t : TypeId} (h : Row w g cs t) (hb : Below B w w') (hg : g < B) : Row w' g cs t := (hb.block g hg).trans h
theorem gr_beneath {K B : Nat} {a w w' : World} (h : a.grownBy w (some K)) (hb : Below B w w') (hB : a.heap.size ≤ B) : a.grownBy w' (some K) :=
  ⟨hb.os.trans h.os, hb.tape.trans h.tape, hb.output.trans h.output, Nat.le_trans h.size hb.size, fun k hk hne => (hb.block k (by omega)).trans (h.block k hk hne)⟩
theorem goV_ok {l : List UInt8} {q : Int} : (goT l q).1 ≤ 18446744073709551615 := by
  by_cases h : (goT l q).2.2.2 = 0
  · have := otT_ok l q
    rw [otT_good h] at this
    exact this
  · unfold goT at h ⊢
    split
    · exact Nat.zero_le _
    · rename_i h1
      rw [if_neg h1] at h
      split
      · exact Nat.zero_le _
      · rename_i h2
        rw [if_neg h2] at h
        exact absurd rfl h
/-- Memory from block B on stays. -/
structure Above (B : Nat) (w w' : World) : Prop where
  os : w'.os = w.os
  tape : w'.tape = w.tape
  output : w'.output = w.output
  size : w.heap.size ≤ w'.heap.size
  block : ∀ k, B ≤ k → k < w.heap.size → w'.heap[k]? = w.heap[k]?
theorem Above.of_nx {B : Nat} {w w' : World} (h : Nx w w') : Above B w w' := ⟨h.os, h.tape, h.output, h.size, fun k _ hk => h.block k hk⟩
theorem Above.of_gr {B J : Nat} {w w' : World} (h : w.grownBy w' (some J)) (hJ : J < B) : Above B w w' := ⟨h.os, h.tape, h.output, h.size, fun k hb hk => h.block k hk (fun e => by have := Option.some.inj e; omega)⟩
theorem Above.trans {B : Nat} {a b c : World} (h : Above B a b) (k : Above B b c) : Above B a c := ⟨k.os.trans h.os, k.tape.trans h.tape, k.output.trans h.output, Nat.le_trans h.size k.size, fun i hb hi => (k.block i hb (Nat.lt_of_lt_of_le hi h.size)).trans (h.block i hb hi)⟩
theorem Above.mono {B B' : Nat} {a b : World} (h : Above B a b) (k : B ≤ B') : Above B' a b := ⟨h.os, h.tape, h.output, h.size, fun i hb hi => h.block i (Nat.le_trans k hb) hi⟩
theorem Above.cell {B : Nat} {a b : World} (h : Above B a b) {p : Addr} (h1 : B ≤ p.block) (h2 : p.block < a.heap.size) : b.cell? p = a.cell? p := by
  unfold World.cell?
  rw [h.block p.block h1 h2]
theorem Above.rd {B : Nat} {a b : World} {u : Value} {l : List UInt8} (x : Above B a b) (h : Rd a u l) (hb : 0 < l.length → ∀ q, u.ownBlock = some q → B ≤ q) : Rd b u l := by
  obtain ⟨A, c, rfl, h1, h2, h3⟩ := h
  refine ⟨A, c, rfl, h1, h2, fun hp => ?_⟩
  obtain ⟨g, o, rfl, hg, hc⟩ := h3 hp
  have hB := hb hp g rfl
  exact ⟨g, o, rfl, Nat.lt_of_lt_of_le hg x.size, fun j hj => by rw [← hc j hj]; exact x.cell (p := ⟨g, o + j, none⟩) hB hg⟩
theorem Above.rdS {B : Nat} {s : Option Nat} {a b : World} {u : Value} {l : List UInt8} (x : Above B a b) (h : RdS s a u l) (hb : 0 < l.length → ∀ q, u.ownBlock = some q → B ≤ q) : RdS s b u l := ⟨x.rd h.1 hb, h.2⟩
theorem Above.ownF {E : TypeId} {k B C : Nat} {w w' : World} {v : Value} {n : Nat} {fs : List Value} (x : Above C w w') (h : OwnF E k B w v n fs) (hB : C ≤ B) : OwnF E k B w' v n fs := by
  obtain ⟨h0, h2⟩ := h
  refine ⟨h0, ?_⟩
  rcases h2 with h2 | ⟨g, c, full, rfl, hb, hg, rest⟩
  · exact .inl h2
  · exact .inr ⟨g, c, full, rfl, hb, by rw [x.block g (Nat.le_trans hB hb) (Array.getElem?_eq_some_iff.1 hg).1]; exact hg, rest⟩
theorem inK_above {K B C : Nat} {w w' : World} {v : Value} {es : List Inp} (h : OwnE (inElK K) B w v es) (hB : K < B) (hC : C ≤ K + 1) (x : Above C w w') : OwnE (inElK K) B w' v es := by
  obtain ⟨fs, h1, h3⟩ := h
  refine ⟨fs, x.ownF h1 (by omega), h3.1, fun j hj => ?_⟩
  obtain ⟨u, e, b, hr, hk⟩ := h3.2 j hj
  exact ⟨u, e, b, x.rdS hr (fun hp q hq => by have := hk hp q hq; omega), hk⟩
theorem outK_above {K B C : Nat} {w w' : World} {v : Value} {es : List Outp} (h : OwnE (outElK K) B w v es) (hB : K < B) (hC : C ≤ K + 1) (x : Above C w w') : OwnE (outElK K) B w' v es := by
  obtain ⟨fs, h1, h3⟩ := h
  refine ⟨fs, x.ownF h1 (by omega), h3.1, fun j hj => ?_⟩
  obtain ⟨u, e, b, hr, hk⟩ := h3.2 j hj
  exact ⟨u, e, b, x.rdS hr (fun hp q hq => by have := hk hp q hq; omega), hk⟩
/-- What is got lies in no block below B: those may be written. -/
def TxFree (B : Nat) (w : World) (iv ov : Value) (t : Txn) : Prop := TxAt w iv ov t ∧ ∀ W, Above B w W → TxAt W iv ov t
theorem TxFree.z (B : Nat) (w : World) : TxFree B w (.slice none 0 0) (.slice none 0 0) txZ := ⟨txAt_z _, fun _ _ => txAt_z _⟩
theorem TxFree.nx {B : Nat} {w w' : World} {iv ov : Value} {t : Txn} (h : TxFree B w iv ov t) (k : Nx w w') : TxFree B w' iv ov t := ⟨h.1.nx k, fun W x => h.2 W ((Above.of_nx k).trans x)⟩
theorem TxFree.above {B : Nat} {w w' : World} {iv ov : Value} {t : Txn} (h : TxFree B w iv ov t) (k : Above B w w') : TxFree B w' iv ov t := ⟨h.2 _ k, fun W x => h.2 W (k.trans x)⟩
theorem TxFree.gr {B J : Nat} {w w' : World} {iv ov : Value} {t : Txn} (h : TxFree B w iv ov t) (hJ : J < B) (k : w.grownBy w' (some J)) : TxAt w' iv ov t := h.2 _ (Above.of_gr k hJ)
theorem inzsz : (Value.agg (icel inZ (.slice none 0 0))).cells.size = 35 := by kernel_rfl
end Go.Proofs.YtejeekbpeinioaaGreatDoor
end

section
namespace Go.Proofs.YtejeekbpeinioaaGreatDoor
open Go Go.RowKit
set_option linter.unusedVariables false
set_option linter.unusedSimpArgs false
set_option linter.unusedVariables false
set_option linter.unusedSimpArgs false

set_option maxRecDepth 100000 in
set_option maxHeartbeats 16000000 in
theorem rtget_any (bv : Value) (l : List UInt8) (at_ : Int) (w : World) (h : Rd w bv l) (hl : l.length ≤ 140737488355328) :
    Calls Tryz.prog 50 #[bv, .int .i64 at_] w fun e w' => ∃ iv ov, e = .returned (.tuple #[.agg (tcel iv ov (tgT l at_).1.after), .int .i64 (tgT l at_).2.1, .int .i64 (tgT l at_).2.2]) ∧ TxFree w.heap.size w' iv ov (tgT l at_).1 ∧ Nx w w' := by
  have HC := Lib.hid (fun p w h => refGetCount_any bv l p w h hl)
  have HPO := Lib.hid (fun p w h => rgetPoint_any bv l p w h hl)
  have HRO := Lib.hid (fun p w h => refGetRow_any bv l p 3000 w h hl (by decide))
  have HGO := Lib.hid (fun p w h => rgetOut_any bv l p w h hl)
  have HG4 := Lib.hid (fun p w h => refGet_any bv l p 4 w h hl)
  have HB := Lib.hid h
  obtain ⟨A, c, rfl, -⟩ := h
  have RT := Lib.hid ((Row.new w #[.slice none 0 0, .slice none 0 0, .int .u32 0] 54 _ rfl).alloc (.cells #[.slice none 0 0, .slice none 0 0, .int .u32 0] 54))
  have RG := Lib.hid (Row.new2 w (.cells #[.slice none 0 0, .slice none 0 0, .int .u32 0] 54) #[.slice none 0 0, .slice none 0 0, .int .u32 0] 54)
  have NN := Lib.hid (((Nx.refl w).alloc (.cells #[.slice none 0 0, .slice none 0 0, .int .u32 0] 54)).alloc (.cells #[.slice none 0 0, .slice none 0 0, .int .u32 0] 54))
  have HB2 : Hid (w.heap.size + 1 + 1 ≤ ((w.alloc (.cells #[.slice none 0 0, .slice none 0 0, .int .u32 0] 54)).alloc (.cells #[.slice none 0 0, .slice none 0 0, .int .u32 0] 54)).heap.size) := Lib.hid (by simp)
  obtain ⟨hz, hzs⟩ := zero_of_info info_tx2
  obtain ⟨hz2, hzs2⟩ := zero_of_info info_point
  have cz := Lib.hid info_tx
  obtain ⟨hz3, hzs3⟩ := zero_of_info info_out
  have io := Lib.hid hzs3
  have HA := Lib.hid (fun c => tg_a (l := l) (at_ := at_) (c := c))
  have HLB := Lib.hid (fun c => ls_bad (l := l) (f := inT l) (p := at_) (c := c))
  have HLL := Lib.hid (ls_lim (l := l) (f := inT l) (p := at_))
  have HLO := Lib.hid (ls_ok (l := l) (f := inT l) (p := at_))
  have HCc := Lib.hid (HC.out at_)
  have HIU := Lib.hid (lsO_all (Pr := fun i : Inp => i.u.length ≤ 3000) (fun p => inT_u l p) (cnT l at_ 16))
  have HOL := Lib.hid (fun c => lsO_all (Pr := fun o : Outp => o.l.length ≤ 100) (fun p => otT_l l p) c)
  have HTB := Lib.hid (fun TL TP c => tg_b (l := l) (at_ := at_) (TL := TL) (TP := TP) (c := c))
  have HTC := Lib.hid (fun TL UL TP UP c => tg_c (l := l) (at_ := at_) (TL := TL) (UL := UL) (TP := TP) (UP := UP) (c := c))
  have HTD := Lib.hid (fun TL UL TP UP => tg_d (l := l) (at_ := at_) (TL := TL) (UL := UL) (TP := TP) (UP := UP))
  have HTE := Lib.hid (fun TL UL TP UP => tg_e (l := l) (at_ := at_) (TL := TL) (UL := UL) (TP := TP) (UP := UP))
  have HAT : Hid ((gc l at_).2.2 = 0 → 0 ≤ at_ ∧ at_ ≤ l.length) := Lib.hid (fun h => gc_at h)
  generalize hRR : tgT l at_ = R at *
  clear hRR
  generalize gc l at_ = C at *
  obtain ⟨n, p, E⟩ := C
  dsimp only at *
  go_enter Tryz.func50, Tryz.ntmps50
  go_wp2_with fail
  refine (HCc.out _ (HB.out.nx NN.out)).mono ?_
  rintro e w1 ⟨rfl, n1⟩
  replace RT := Lib.hid (RT.out.nx n1)
  replace RG := Lib.hid (RG.out.nx n1)
  replace NN := Lib.hid (NN.out.trans n1)
  replace HB2 : Hid (w.heap.size + 1 + 1 ≤ w1.heap.size) := Lib.hid (Nat.le_trans HB2.out n1.size)
  clear n1 HCc
  by_cases hE : E = 0
  · subst hE
    by_cases hn : 16 < n
    · have hn1 : (16 : Int) < (n : Int) := by omega
      have k0 := RT.out.cell (i := 0) (v := .slice none 0 0) rfl
      have k1 := RT.out.cell (i := 1) (v := .slice none 0 0) rfl
      have k2 := RT.out.cell (i := 2) (v := .int .u32 0) rfl
      have f0 := RT.out.frozen 0
      have f1 := RT.out.frozen 1
      have f2 := RT.out.frozen 2
      have hR := Lib.hid (HA.out 3 (HLL.out rfl hn) (by decide))
      go_wp2_with fail
      exact bodyPost_ret (results_cell_row3 Tryz.results50 _ _ w.heap.size 54 (tcel (.slice none 0 0) (.slice none 0 0) 0) (0, 0) _ rfl (((RT.out.set 0 _).set 1 _).set 2 _) Tryz.underlying54 rfl (txz _ _ _)) rfl ⟨_, _, by rw [hR.out]; rfl, by rw [hR.out]; exact TxFree.z _ _, ((NN.out.setAt (i := 0) _ (Nat.le_refl _)).setAt (i := 1) _ (Nat.le_refl _)).setAt (i := 2) _ (Nat.le_refl _)⟩
    · have hn1 : ¬ (16 : Int) < (n : Int) := by omega
      have HLS := Lib.hid (HLO.out rfl hn)
      have HN16 : Hid (n ≤ 16) := Lib.hid (by omega)
      have HAT2 := Lib.hid (HAT.out rfl)
      have HJ0 := Lib.hid (lsJ_begin (inT l) n p)
      rw [← HLS.out] at HJ0
      generalize lsO (inT l) (cnT l at_ 16) = T at *
      clear hn HLB HLL HLO HLS HAT
      go_wp2_with fail
      clear hn1
      replace HJ0 : Hid (LsJ (inT l) T [] (n - 0) p) := HJ0
      go_loopw [9, 11] (fun pv iv wr => ∃ (j : Nat) (es : List Inp) (q : Int) (v : Value), iv = .int .u64 (j : Int) ∧ pv = .int .i64 q ∧ j ≤ n ∧ Hid (es.length = j) ∧ Hid (LsJ (inT l) T es (n - j) q) ∧ Hid (OwnE (inElK (w.heap.size + 1)) (w.heap.size + 1 + 1) wr v es) ∧ Hid (Row wr (w.heap.size + 1) #[v, .slice none 0 0, .int .u32 0] 54) ∧ Hid (Row wr w.heap.size #[.slice none 0 0, .slice none 0 0, .int .u32 0] 54) ∧ Hid (Nx w wr) ∧ Hid (w.heap.size + 1 + 1 ≤ wr.heap.size)) (fun _ iv _ => n - (intOf iv).toNat)
      case atStart => exact ⟨0, [], p, _, rfl, rfl, Nat.zero_le _, Lib.hid rfl, HJ0, Lib.hid (OwnE.nil _ _), RG, RT, NN, HB2⟩
      case round =>
        clear HJ0 RG RT NN HB2
        obtain ⟨j, es, q, v, rfl, rfl, hj, HES, HJ, HOE, RG, RT, NN, HB2⟩ := hrel
        by_cases hlt : j < n
        · have HLT := Lib.hid hlt
          have hlt1 : (j : Int) < (n : Int) := by omega
          have hj16 : (j : Int) < 16 := by have := HN16.out; omega
          have HJ1 : Hid (LsJ (inT l) T es ((n - (j + 1)) + 1) q) := Lib.hid (by rw [show n - (j + 1) + 1 = n - j by omega]; exact HJ.out)
          have HSTEP := Lib.hid (fun h => lsJ_step HJ1.out h)
          have HBAD := Lib.hid (fun h => lsJ_bad HJ1.out h)
          have I1 := Lib.hid (inT_bad1 (l := l) (q := q))
          have I2 := Lib.hid (inT_bad2 (l := l) (q := q))
          have I3 := Lib.hid (inT_good (l := l) (q := q))
          have HXL := Lib.hid (gpX_length l q)
          have HOK : Hid (∀ u, InOk ⟨gpX l q, gpN l q, gpH l q, u⟩) := Lib.hid (fun u => ⟨gpX_length l q, gpN_lt l q, gpH_lt l q⟩)
          have HPS := Lib.hid (pointsz (gpX l q) (gpN l q) (gpH l q) HXL.out)
          have HPS2 := Lib.hid (pointsame Z32 (gpX l q) 0 0 (gpN l q) (gpH l q) Z32_length HXL.out)
          have HPq := Lib.hid (HPO.out q)
          have HRq := Lib.hid (HRO.out (gpP l q))
          clear hlt hj HJ HJ1
          generalize inT l q = IX at *
          generalize gpX l q = X at *
          generalize gpN l q = N at *
          generalize gpH l q = H at *
          generalize gpP l q = P at *
          generalize gpE l q = E1 at *
          generalize gr l P 3000 = G at *
          obtain ⟨U, q2, F⟩ := G
          dsimp only at *
          go_wp2_with fail
          refine (HPq.out _ (HB.out.nx NN.out)).mono ?_
          rintro e w2 ⟨rfl, n2⟩
          have RZ := Row.new w2 (pcel Z32 0 0) 57 _ rfl
          have NP : Hid (Nx wr ((w2.alloc (.cells (pcel Z32 0 0) 57)).setRow w2.heap.size (pcel X N H))) := Lib.hid ((n2.alloc _).setRow _ n2.size)
          have RP := RZ.setRow (pcel X N H)
          replace RT := Lib.hid (RT.out.nx NP.out)
          replace RG := Lib.hid (RG.out.nx NP.out)
          replace NN := Lib.hid (NN.out.trans NP.out)
          replace HOE := Lib.hid (HOE.out.nx NP.out)
          replace HB2 : Hid (w.heap.size + 1 + 1 ≤ ((w2.alloc (.cells (pcel Z32 0 0) 57)).setRow w2.heap.size (pcel X N H)).heap.size) := Lib.hid (Nat.le_trans HB2.out NP.out.size)
          have HB2b := Lib.hid HB2.out
          have HBW := Lib.hid (HB.out.nx NN.out)
          clear n2 HPq
          have hp1 := pcel_one X N H
          by_cases hE1 : E1 = 0
          · subst hE1
            go_wp2_with (refine wpList_store_row rfl 57 (.tmp 12) (.tmp 50) rfl w2.heap.size (pcel X N H) rfl rfl 57 (pcel Z32 0 0) RZ HPS.out HPS2.out hp1 ?_)
            clear RZ hp1
            generalize (w2.alloc (.cells (pcel Z32 0 0) 57)).setRow w2.heap.size (pcel X N H) = W at *
            generalize w2.heap.size = gp at *
            refine (HRq.out _ HBW.out).mono ?_
            rintro e w3 ⟨uv, rfl, ho, n3⟩
            obtain ⟨A3, c3, rfl, -⟩ := ho.rd
            replace RT := Lib.hid (RT.out.nx n3)
            have RG3 := RG.out.nx n3
            replace RP := RP.nx n3
            replace NN := Lib.hid (NN.out.trans n3)
            have HOE3 := Lib.hid (HOE.out.nx n3)
            replace HB2 : Hid (w.heap.size + 1 + 1 ≤ w3.heap.size) := Lib.hid (Nat.le_trans HB2.out n3.size)
            have HUO := Lib.hid ho
            have HBW2 := Lib.hid HB2b.out
            have HAP : Hid (∀ q, v.ownBlock = some q → q < W.heap.size) := Lib.hid (fun q hq => (HOE.out.blk q hq).2)
            clear ho n3 HRq HBW NP RG HOE
            by_cases hF : F = 0
            · subst hF
              have HIX := Lib.hid (I3.out (by first | exact rfl | trivial) (by first | exact rfl | trivial))
              have HST := HSTEP.out (by rw [HIX.out])
              rw [HIX.out] at HST
              replace HST := Lib.hid HST
              obtain ⟨Av, cv, rfl⟩ := ownE_sl HOE3.out
              have HOKU := Lib.hid (HOK.out U)
              have HBU := Lib.hid (built_in X HXL.out N H U A3 U.length c3)
              have c0 := RG3.cell (i := 0) (v := .slice Av es.length cv) rfl
              have g0 := RG3.frozen 0
              have NA : Nx w3 (w3.alloc (.cells (icel ⟨X, N, H, U⟩ (.slice A3 U.length c3)) 59)) := (Nx.refl w3).alloc _
              have HOW2 := Lib.hid (HOE3.out.nx NA)
              have HRF := Lib.hid (rdF_one (E := 59) (w := w3) (icl_length ⟨X, N, H, U⟩ (.slice A3 U.length c3) HOKU.out) (inEl.one (s := none) (w := w3) (a := ⟨X, N, H, U⟩) ⟨_, rfl, HOKU.out, HUO.out.rd, fun _ q hq => by cases hq⟩))
              have HAE := Lib.hid (inK_one (K := w.heap.size + 1) (C := W.heap.size) (v := .slice Av es.length cv) (i := ⟨X, N, H, U⟩) HOKU.out (HUO.out.nx NA) (by have := HBW2.out; omega) HAP.out)
              have NN2 := Lib.hid (NN.out.trans NA)
              have RG4 := Lib.hid (RG3.nx NA)
              have RT4 := Lib.hid (RT.out.nx NA)
              have HB4 : Hid (w.heap.size + 1 + 1 ≤ (w3.alloc (.cells (icel ⟨X, N, H, U⟩ (.slice A3 U.length c3)) 59)).heap.size) := Lib.hid (Nat.le_trans HB2.out NA.size)
              have HEL : Hid (es.length + 1 ≤ 16) := Lib.hid (by have h1 := HES.out; have h2 := HLT.out; have h3 := HN16.out; omega)
              clear NA RG3
              go_wp2_with (first | (refine wpList_load_row rfl 57 (.tmp 12) rfl gp rfl 57 (pcel X N H) (0, 0) _ RP Tryz.underlying57 rfl HPS.out ?_) | (refine wpList_built (some 72) rfl rfl 59 _ rfl [(0, .agg (pcel X N H)), (1, .slice A3 U.length c3)] (by kernel_rfl) _ HBU.out ?_) | (refine wpList_mkin rfl (.tmp 72) rfl ⟨X, N, H, U⟩ HOKU.out A3 U.length c3 rfl ?_) | (at_builtin; refine wpList_appE (inElK (w.heap.size + 1)) rfl (.tmp 69) (.tmp 73) 51 rfl (.agg (icel inZ (.slice none 0 0))) 64 Tryz.underlying51 info_in3 inzsz (w.heap.size + 1 + 1) (.slice Av es.length cv) (.slice (some ⟨w3.heap.size, 0, none⟩) 1 1) es [⟨X, N, H, U⟩] (icl ⟨X, N, H, U⟩ (.slice A3 U.length c3)) rfl rfl HOW2.out HRF.out HAE.out ?e1 ?e2 ?e3 ?_))
              case e1 => have := HEL.out; simp; omega
              case e2 => have := HEL.out; simp [maxLen]; omega
              case e3 => exact HB4.out
              intro v' w4 o' b' _
              have HO := Lib.hid o'
              have RG5 := row_beneath RG4.out b' (by omega)
              have RT5 := Lib.hid (row_beneath RT4.out b' (by omega))
              have N5 := Lib.hid (NN2.out.app (b'.mono (by omega)))
              have HB5 : Hid (w.heap.size + 1 + 1 ≤ w4.heap.size) := Lib.hid (Nat.le_trans HB4.out b'.size)
              have c0 := RG5.cell (i := 0) (v := .slice Av es.length cv) rfl
              have g0 := RG5.frozen 0
              obtain ⟨A5, c5, hv5⟩ := ownE_sl o'
              rw [List.length_append, List.length_singleton] at hv5
              subst hv5
              clear o' b' HRF HAE HOW2
              go_wp2_with fail
              go_roundw
              case rel =>
                have q1 : Hid ((es ++ [(⟨X, N, H, U⟩ : Inp)]).length = j + 1) := Lib.hid (by rw [List.length_append, HES.out]; rfl)
                have q2' : Hid (LsJ (inT l) T (es ++ [(⟨X, N, H, U⟩ : Inp)]) (n - (j + 1)) q2) := Lib.hid HST.out
                have q3 := Lib.hid (inK_beside HO.out (by omega) (gr_set w4 (w.heap.size + 1) 0 (.slice A5 (es.length + 1) c5)))
                have q4 : Hid (Row (w4.setCell ⟨w.heap.size + 1, 0, none⟩ (.slice A5 (es.length + 1) c5)) (w.heap.size + 1) #[.slice A5 (es.length + 1) c5, .slice none 0 0, .int .u32 0] 54) := Lib.hid (RG5.set 0 (.slice A5 (es.length + 1) c5))
                have q5 := Lib.hid (RT5.out.other (w.heap.size + 1) 0 (.slice A5 (es.length + 1) c5) (by omega))
                have q6 := Lib.hid (N5.out.setAt (k := w.heap.size + 1) (i := 0) (.slice A5 (es.length + 1) c5) (by omega))
                have q7 : Hid (w.heap.size + 1 + 1 ≤ (w4.setCell ⟨w.heap.size + 1, 0, none⟩ (.slice A5 (es.length + 1) c5)).heap.size) := Lib.hid (by simpa [World.setCell] using HB5.out)
                have q0 : Value.int IntKind.u64 ((j : Int) + 1) = .int .u64 ((j + 1 : Nat) : Int) := by rw [Int.natCast_add]; rfl
                refine ⟨j + 1, es ++ [⟨X, N, H, U⟩], q2, .slice A5 (es.length + 1) c5, q0, rfl, HLT.out, ?_, ?_, ?_, ?_, ?_, ?_, ?_⟩
                · exact q1
                · exact q2'
                · with_reducible exact q3
                · exact q4
                · with_reducible exact q5
                · exact q6
                · exact q7
              case measure =>
                have h1 := HLT.out
                show n - (j + 1) < n - j
                omega
            · have dF : (F != 0) = true := by simp [hF]
              have k0 := RT.out.cell (i := 0) (v := .slice none 0 0) rfl
              have k1 := RT.out.cell (i := 1) (v := .slice none 0 0) rfl
              have k2 := RT.out.cell (i := 2) (v := .int .u32 0) rfl
              have f0 := RT.out.frozen 0
              have f1 := RT.out.frozen 1
              have f2 := RT.out.frozen 2
              have hR := Lib.hid (by have := HBAD.out (by rw [I2.out (by first | exact rfl | trivial) hF]; exact hF); exact HA.out F (by rw [this, I2.out (by first | exact rfl | trivial) hF]) hF)
              go_wp2_with fail
              exact bodyPost_ret (results_cell_row3 Tryz.results50 _ _ w.heap.size 54 (tcel (.slice none 0 0) (.slice none 0 0) 0) (0, 0) _ rfl (((RT.out.set 0 _).set 1 _).set 2 _) Tryz.underlying54 rfl (txz _ _ _)) rfl ⟨_, _, by rw [hR.out]; rfl, by rw [hR.out]; exact TxFree.z _ _, ((NN.out.setAt (i := 0) _ (Nat.le_refl _)).setAt (i := 1) _ (Nat.le_refl _)).setAt (i := 2) _ (Nat.le_refl _)⟩
          · have dE1 : (E1 != 0) = true := by simp [hE1]
            have k0 := RT.out.cell (i := 0) (v := .slice none 0 0) rfl
            have k1 := RT.out.cell (i := 1) (v := .slice none 0 0) rfl
            have k2 := RT.out.cell (i := 2) (v := .int .u32 0) rfl
            have f0 := RT.out.frozen 0
            have f1 := RT.out.frozen 1
            have f2 := RT.out.frozen 2
            have hR := Lib.hid (by have := HBAD.out (by rw [I1.out hE1]; exact hE1); exact HA.out E1 (by rw [this, I1.out hE1]) hE1)
            go_wp2_with (refine wpList_store_row rfl 57 (.tmp 12) (.tmp 50) rfl w2.heap.size (pcel X N H) rfl rfl 57 (pcel Z32 0 0) RZ HPS.out HPS2.out hp1 ?_)
            exact bodyPost_ret (results_cell_row3 Tryz.results50 _ _ w.heap.size 54 (tcel (.slice none 0 0) (.slice none 0 0) 0) (0, 0) _ rfl (((RT.out.set 0 _).set 1 _).set 2 _) Tryz.underlying54 rfl (txz _ _ _)) rfl ⟨_, _, by rw [hR.out]; rfl, by rw [hR.out]; exact TxFree.z _ _, ((NN.out.setAt (i := 0) _ (Nat.le_refl _)).setAt (i := 1) _ (Nat.le_refl _)).setAt (i := 2) _ (Nat.le_refl _)⟩
        · have HATX := Lib.hid (show True from trivial)
          clear HA HN16 HPO HRO HATX
          have HTQ := Lib.hid (lsJ_end (T := T) (es := es) (p := q) (by have h1 : n - j = 0 := by omega
                                                                        rw [← h1]; exact HJ.out))
          obtain ⟨Av, cv, rfl⟩ := ownE_sl HOE.out
          have HTB2 := Lib.hid (fun c => HTB.out es q c HTQ.out)
          have HTC2 := Lib.hid (fun UL UP c => HTC.out es UL q UP c HTQ.out)
          have HTD2 := Lib.hid (fun UL UP => HTD.out es UL q UP HTQ.out)
          have HTE2 := Lib.hid (fun UL UP => HTE.out es UL q UP HTQ.out)
          have HLB2 := Lib.hid (fun c => ls_bad (l := l) (f := otT l) (p := q) (c := c))
          have HLL2 := Lib.hid (ls_lim (l := l) (f := otT l) (p := q))
          have HLO2 := Lib.hid (ls_ok (l := l) (f := otT l) (p := q))
          have HCq := Lib.hid (HC.out q)
          have hlt1 : ¬ (j : Int) < (n : Int) := by omega
          have HIU2 : Hid (∀ i ∈ es, i.u.length ≤ 3000) := Lib.hid (fun i hi => HIU.out i (by rw [HTQ.out]; exact hi))
          have HOL2 := Lib.hid (HOL.out (cnT l q 16))
          clear HTB HTC HTD HTE HTQ HES HJ hlt hj HC HIU HOL
          generalize gc l q = C2 at *
          obtain ⟨n2, p2, E2⟩ := C2
          dsimp only at *
          go_wp2_with fail
          refine (HCq.out _ (HB.out.nx NN.out)).mono ?_
          rintro e w5 ⟨rfl, n5⟩
          replace RT := Lib.hid (RT.out.nx n5)
          replace RG := Lib.hid (RG.out.nx n5)
          replace NN := Lib.hid (NN.out.trans n5)
          replace HOE := Lib.hid (HOE.out.nx n5)
          replace HB2 : Hid (w.heap.size + 1 + 1 ≤ w5.heap.size) := Lib.hid (Nat.le_trans HB2.out n5.size)
          clear n5 HCq hlt1
          by_cases hE2 : E2 = 0
          · subst hE2
            by_cases hm : 16 < n2
            · have hm1 : (16 : Int) < (n2 : Int) := by omega
              have k0 := RT.out.cell (i := 0) (v := .slice none 0 0) rfl
              have k1 := RT.out.cell (i := 1) (v := .slice none 0 0) rfl
              have k2 := RT.out.cell (i := 2) (v := .int .u32 0) rfl
              have f0 := RT.out.frozen 0
              have f1 := RT.out.frozen 1
              have f2 := RT.out.frozen 2
              have hR := Lib.hid (HTB2.out 3 (HLL2.out (by first | exact rfl | trivial) hm) (by decide))
              go_wp2_with fail
              exact bodyPost_ret (results_cell_row3 Tryz.results50 _ _ w.heap.size 54 (tcel (.slice none 0 0) (.slice none 0 0) 0) (0, 0) _ rfl (((RT.out.set 0 _).set 1 _).set 2 _) Tryz.underlying54 rfl (txz _ _ _)) rfl ⟨_, _, by rw [hR.out]; rfl, by rw [hR.out]; exact TxFree.z _ _, ((NN.out.setAt (i := 0) _ (Nat.le_refl _)).setAt (i := 1) _ (Nat.le_refl _)).setAt (i := 2) _ (Nat.le_refl _)⟩
            · have hm1 : ¬ (16 : Int) < (n2 : Int) := by omega
              have HLS2 := Lib.hid (HLO2.out (by first | exact rfl | trivial) hm)
              have HM16 : Hid (n2 ≤ 16) := Lib.hid (by omega)
              have HJ0 := Lib.hid (lsJ_begin (otT l) n2 p2)
              rw [← HLS2.out] at HJ0
              generalize lsO (otT l) (cnT l q 16) = T2 at *
              clear hm HLB2 HLL2 HLO2 HLS2
              go_wp2_with fail
              clear hm1
              replace HJ0 : Hid (LsJ (otT l) T2 [] (n2 - 0) p2) := HJ0
              go_loopw [9, 21] (fun pv iv wr => ∃ (j : Nat) (us : List Outp) (q : Int) (v : Value), iv = .int .u64 (j : Int) ∧ pv = .int .i64 q ∧ j ≤ n2 ∧ Hid (us.length = j) ∧ Hid (LsJ (otT l) T2 us (n2 - j) q) ∧ Hid (OwnE (outElK (w.heap.size + 1)) w5.heap.size wr v us) ∧ Hid (Row wr (w.heap.size + 1) #[.slice Av es.length cv, v, .int .u32 0] 54) ∧ Hid (Row wr w.heap.size #[.slice none 0 0, .slice none 0 0, .int .u32 0] 54) ∧ Hid (Nx w wr) ∧ Hid (w5.grownBy wr (some (w.heap.size + 1)))) (fun _ iv _ => n2 - (intOf iv).toNat)
              case atStart => exact ⟨0, [], p2, _, rfl, rfl, Nat.zero_le _, Lib.hid rfl, HJ0, Lib.hid (OwnE.nil _ _), RG, RT, NN, Lib.hid (gr_of (Nx.refl _))⟩
              case round =>
                clear HJ0 RG RT NN
                obtain ⟨j, us, q, v, rfl, rfl, hj, HUS, HJ, HOU, RG, RT, NN, HGW⟩ := hrel
                have HGZ := Lib.hid HGW.out.size
                by_cases hlt : j < n2
                · have HLT := Lib.hid hlt
                  have hlt1 : (j : Int) < (n2 : Int) := by omega
                  have hj16 : (j : Int) < 16 := by have := HM16.out; omega
                  have HJ1 : Hid (LsJ (otT l) T2 us ((n2 - (j + 1)) + 1) q) := Lib.hid (by rw [show n2 - (j + 1) + 1 = n2 - j by omega]; exact HJ.out)
                  have HSTEP := Lib.hid (fun h => lsJ_step HJ1.out h)
                  have HBAD := Lib.hid (fun h => lsJ_bad HJ1.out h)
                  have I1 := Lib.hid (otT_bad (l := l) (q := q))
                  have I3 := Lib.hid (otT_good (l := l) (q := q))
                  have HVK := Lib.hid (goV_ok (l := l) (q := q))
                  have HGq := Lib.hid (HGO.out q)
                  clear hlt hj HJ HJ1
                  generalize otT l q = IX at *
                  generalize goT l q = G at *
                  obtain ⟨V, L, q2, F⟩ := G
                  dsimp only at *
                  go_wp2_with fail
                  refine (HGq.out _ (HB.out.nx NN.out)).mono ?_
                  rintro e w6 ⟨lk, rfl, ho, n6⟩
                  obtain ⟨A3, c3, rfl, -⟩ := ho.rd
                  have RZ := Row.new w6 #[.int .u64 0, .slice none 0 0] 62 _ rfl
                  have RO := RZ.setRow #[.int .u64 (V : Int), .slice A3 L.length c3]
                  have NS : Nx w6 ((w6.alloc (.cells #[.int .u64 0, .slice none 0 0] 62)).setRow w6.heap.size #[.int .u64 (V : Int), .slice A3 L.length c3]) := ((Nx.refl w6).alloc _).setRow _ (Nat.le_refl _)
                  have HAP : Hid (∀ q, v.ownBlock = some q → q < wr.heap.size) := Lib.hid (fun q hq => (HOU.out.blk q hq).2)
                  have NW := n6.trans NS
                  replace RT := Lib.hid (RT.out.nx NW)
                  have RG6 := RG.out.nx NW
                  replace NN := Lib.hid (NN.out.trans NW)
                  replace HOU := Lib.hid (HOU.out.nx NW)
                  have HUO := Lib.hid (ho.nx NS)
                  replace HGW := Lib.hid (gr_trans HGW.out (gr_of (s := some (w.heap.size + 1)) NW))
                  have HSZ1 : Hid (((w6.alloc (.cells #[.int .u64 0, .slice none 0 0] 62)).setRow w6.heap.size #[.int .u64 (V : Int), .slice A3 L.length c3]).heap.size = w6.heap.size + 1) := Lib.hid (by simp)
                  clear ho n6 NW HGq NS RG
                  by_cases hF : F = 0
                  · subst hF
                    have HIX := Lib.hid (I3.out (by first | exact rfl | trivial))
                    have HST := HSTEP.out (by rw [HIX.out])
                    rw [HIX.out] at HST
                    replace HST := Lib.hid HST
                    obtain ⟨Aw, cw, rfl⟩ := ownE_sl HOU.out
                    have c1 := RG6.cell (i := 1) (v := .slice Aw us.length cw) rfl
                    have g1 := RG6.frozen 1
                    generalize hW6 : (w6.alloc (.cells #[.int .u64 0, .slice none 0 0] 62)).setRow w6.heap.size #[.int .u64 (V : Int), .slice A3 L.length c3] = W6 at HOU HUO HGW NN RT RG6 HSZ1
                    have NA : Nx W6 (W6.alloc (.cells #[.int .u64 (V : Int), .slice A3 L.length c3] 62)) := (Nx.refl W6).alloc _
                    have HOW2 := Lib.hid (HOU.out.nx NA)
                    have HRF := rdF_one (E := 62) (w := W6) (k := 2) (cs := [.int .u64 (V : Int), .slice A3 L.length c3]) rfl (outEl.one (s := none) (w := W6) (a := ⟨V, L⟩) ⟨_, rfl, HVK.out, HUO.out.rd, fun _ q hq => by cases hq⟩)
                    rw [HSZ1.out] at HRF
                    replace HRF := Lib.hid HRF
                    have HAE := Lib.hid (outK_one (K := w.heap.size + 1) (C := wr.heap.size) (v := .slice Aw us.length cw) (o := ⟨V, L⟩) HVK.out (HUO.out.nx NA) (by have h1 := HB2.out; have h2 := HGZ.out; omega) HAP.out)
                    have NN2 := Lib.hid (NN.out.trans NA)
                    have RG4 := Lib.hid (RG6.nx NA)
                    have RT4 := Lib.hid (RT.out.nx NA)
                    have GW4 := Lib.hid (gr_trans HGW.out (gr_of (s := some (w.heap.size + 1)) NA))
                    have HEL : Hid (us.length + 1 ≤ 16) := Lib.hid (by have h1 := HUS.out; have h2 := HLT.out; have h3 := HM16.out; omega)
                    have HB4 := Lib.hid GW4.out.size
                    clear NA RG6 HSZ1 HUO
                    subst hW6
                    go_wp2_with (first | (refine wpList_store_row rfl 62 (.tmp 22) (.tmp 101) rfl w6.heap.size #[.int .u64 (V : Int), .slice A3 L.length c3] rfl rfl 62 #[.int .u64 0, .slice none 0 0] RZ io.out rfl (ocel_one _ _ _ _) ?_) | (refine wpList_load_row rfl 62 (.tmp 22) rfl w6.heap.size rfl 62 #[.int .u64 (V : Int), .slice A3 L.length c3] (0, 0) _ RO Tryz.underlying62 rfl io.out ?_) | (at_builtin; refine wpList_appE (outElK (w.heap.size + 1)) rfl (.tmp 109) (.tmp 111) 52 rfl (.agg #[.int .u64 0, .slice none 0 0]) 32 Tryz.underlying52 info_out3 rfl w5.heap.size (.slice Aw us.length cw) (.slice (some ⟨w6.heap.size + 1, 0, none⟩) 1 1) us [⟨V, L⟩] [.int .u64 (V : Int), .slice A3 L.length c3] rfl rfl HOW2.out HRF.out HAE.out ?f1 ?f2 ?f3 ?_))
                    case f1 => have := HEL.out; simp; omega
                    case f2 => have := HEL.out; simp [maxLen]; omega
                    case f3 => exact HB4.out
                    intro v' w4 o' b' _
                    have HO := Lib.hid o'
                    have RG5 := row_beneath RG4.out b' (by have := HB2.out; omega)
                    have RT5 := Lib.hid (row_beneath RT4.out b' (by have := HB2.out; omega))
                    have N5 := Lib.hid (NN2.out.app (b'.mono (by have := HB2.out; omega)))
                    have GW5 := Lib.hid (gr_beneath GW4.out b' (Nat.le_refl _))
                    have c1 := RG5.cell (i := 1) (v := .slice Aw us.length cw) rfl
                    have g1 := RG5.frozen 1
                    obtain ⟨A5, c5, hv5⟩ := ownE_sl o'
                    rw [List.length_append, List.length_singleton] at hv5
                    subst hv5
                    clear o' b' HRF HAE HOW2 RZ RO
                    go_wp2_with fail
                    go_roundw
                    case rel =>
                      have q0 : Value.int IntKind.u64 ((j : Int) + 1) = .int .u64 ((j + 1 : Nat) : Int) := by rw [Int.natCast_add]; rfl
                      have q1 : Hid ((us ++ [(⟨V, L⟩ : Outp)]).length = j + 1) := Lib.hid (by rw [List.length_append, HUS.out]; rfl)
                      have q2' : Hid (LsJ (otT l) T2 (us ++ [(⟨V, L⟩ : Outp)]) (n2 - (j + 1)) q2) := Lib.hid HST.out
                      have q3 := Lib.hid (outK_beside HO.out (by have := HB2.out; omega) (gr_set w4 (w.heap.size + 1) 1 (.slice A5 (us.length + 1) c5)))
                      have q4 : Hid (Row (w4.setCell ⟨w.heap.size + 1, 1, none⟩ (.slice A5 (us.length + 1) c5)) (w.heap.size + 1) #[.slice Av es.length cv, .slice A5 (us.length + 1) c5, .int .u32 0] 54) := Lib.hid (RG5.set 1 (.slice A5 (us.length + 1) c5))
                      have q5 := Lib.hid (RT5.out.other (w.heap.size + 1) 1 (.slice A5 (us.length + 1) c5) (by omega))
                      have q6 := Lib.hid (N5.out.setAt (k := w.heap.size + 1) (i := 1) (.slice A5 (us.length + 1) c5) (by omega))
                      have q7 := Lib.hid (gr_trans GW5.out (gr_set w4 (w.heap.size + 1) 1 (.slice A5 (us.length + 1) c5)))
                      refine ⟨j + 1, us ++ [⟨V, L⟩], q2, .slice A5 (us.length + 1) c5, q0, rfl, HLT.out, ?_, ?_, ?_, ?_, ?_, ?_, ?_⟩
                      · exact q1
                      · exact q2'
                      · with_reducible exact q3
                      · exact q4
                      · with_reducible exact q5
                      · exact q6
                      · with_reducible exact q7
                    case measure =>
                      have h1 := HLT.out
                      show n2 - (j + 1) < n2 - j
                      omega
                  · have dF : (F != 0) = true := by simp [hF]
                    have k0 := RT.out.cell (i := 0) (v := .slice none 0 0) rfl
                    have k1 := RT.out.cell (i := 1) (v := .slice none 0 0) rfl
                    have k2 := RT.out.cell (i := 2) (v := .int .u32 0) rfl
                    have f0 := RT.out.frozen 0
                    have f1 := RT.out.frozen 1
                    have f2 := RT.out.frozen 2
                    have hR := Lib.hid (by have := HBAD.out (by rw [I1.out hF]; exact hF); exact HTB2.out F (by rw [this, I1.out hF]) hF)
                    go_wp2_with (refine wpList_store_row rfl 62 (.tmp 22) (.tmp 101) rfl w6.heap.size #[.int .u64 (V : Int), .slice A3 L.length c3] rfl rfl 62 #[.int .u64 0, .slice none 0 0] RZ io.out rfl (ocel_one _ _ _ _) ?_)
                    exact bodyPost_ret (results_cell_row3 Tryz.results50 _ _ w.heap.size 54 (tcel (.slice none 0 0) (.slice none 0 0) 0) (0, 0) _ rfl (((RT.out.set 0 _).set 1 _).set 2 _) Tryz.underlying54 rfl (txz _ _ _)) rfl ⟨_, _, by rw [hR.out]; rfl, by rw [hR.out]; exact TxFree.z _ _, ((NN.out.setAt (i := 0) _ (Nat.le_refl _)).setAt (i := 1) _ (Nat.le_refl _)).setAt (i := 2) _ (Nat.le_refl _)⟩
                · have HTQ2 := Lib.hid (lsJ_end (T := T2) (es := us) (p := q) (by (have h1 : n2 - j = 0 := by omega); rw [← h1]; exact HJ.out))
                  obtain ⟨Aw, cw, rfl⟩ := ownE_sl HOU.out
                  have HTC3 := Lib.hid (fun c => HTC2.out us q c HTQ2.out)
                  have HTD3 := Lib.hid (HTD2.out us q HTQ2.out)
                  have HTE3 := Lib.hid (HTE2.out us q HTQ2.out)
                  have HU3 : Hid (∀ o ∈ us, o.l.length ≤ 100) := Lib.hid (fun o ho => HOL2.out o (by rw [HTQ2.out]; exact ho))
                  have HOI := Lib.hid (inK_beside HOE.out (by omega) HGW.out)
                  have HN4 := Lib.hid (getN4_lt l q)
                  have HOKK : Hid (getE l.length q 4 = 0 → 0 ≤ q ∧ q + 4 ≤ l.length) := Lib.hid (fun h => by have := getE_ok h; omega)
                  have HGG := Lib.hid (HG4.out q)
                  have hlt1 : ¬ (j : Int) < (n2 : Int) := by omega
                  clear HTC2 HTD2 HTE2 HTQ2 HOL2 HOE HG4 HJ HUS hj hlt HTB2 HGO
                  generalize getE l.length q 4 = F at *
                  generalize getN l q 4 = N at *
                  go_wp2_with fail
                  refine (HGG.out _ (HB.out.nx NN.out)).mono ?_
                  rintro e w7 ⟨rfl, n7⟩
                  replace RT := Lib.hid (RT.out.nx n7)
                  have RG7 := RG.out.nx n7
                  replace NN := Lib.hid (NN.out.trans n7)
                  replace HOI := Lib.hid (HOI.out.nx n7)
                  replace HOU := Lib.hid (HOU.out.nx n7)
                  clear n7 HGG RG hlt1 HGW HGZ
                  by_cases hF : F = 0
                  · subst hF
                    obtain ⟨p1, p2⟩ := HOKK.out (by first | exact rfl | trivial)
                    obtain ⟨p3, p4⟩ := HAT2.out
                    have kw : IntKind.i64.wrap (q + 4) = q + 4 := IntWalk.i64_in _ (by omega)
                    have kx : IntKind.i64.wrap (q + 4 - at_) = q + 4 - at_ := IntWalk.i64_in _ (by omega)
                    have kn : IntKind.u32.wrap (N : Int) = (N : Int) := by rw [IntKind.wrap_u32]; have := HN4.out; omega
                    clear p1 p2 p3 p4 HOKK
                    have k9 := RG7.cell (i := 2) (v := .int .u32 0) rfl
                    have f9 := RG7.frozen 2
                    have RGS : Row (w7.setCell ⟨w.heap.size + 1, 2, none⟩ (.int .u32 (N : Int))) (w.heap.size + 1) #[.slice Av es.length cv, .slice Aw us.length cw, .int .u32 (N : Int)] 54 := RG7.set 2 (.int .u32 (N : Int))
                    have HRT := Lib.hid (RT.out.other (w.heap.size + 1) 2 (.int .u32 (N : Int)) (by omega))
                    have HNN := Lib.hid (NN.out.setAt (k := w.heap.size + 1) (i := 2) (.int .u32 (N : Int)) (by omega))
                    have TA : Hid (∀ a b c, TxFree w.heap.size ((((w7.setCell ⟨w.heap.size + 1, 2, none⟩ (.int .u32 (N : Int))).setCell ⟨w.heap.size, 0, none⟩ a).setCell ⟨w.heap.size, 1, none⟩ b).setCell ⟨w.heap.size, 2, none⟩ c) (.slice Av es.length cv) (.slice Aw us.length cw) ⟨es, us, N⟩) := Lib.hid (fun a b c =>
                      have X := gr_trans (gr_trans (gr_set (w7.setCell ⟨w.heap.size + 1, 2, none⟩ (.int .u32 (N : Int))) w.heap.size 0 a) (gr_set _ w.heap.size 1 b)) (gr_set _ w.heap.size 2 c)
                      have Y1 := inK_under (inK_beside HOI.out (by omega) (gr_set w7 (w.heap.size + 1) 2 (.int .u32 (N : Int)))) (by omega) (by omega) X
                      have Y2 := outK_under (outK_beside HOU.out (by have := HB2.out; omega) (gr_set w7 (w.heap.size + 1) 2 (.int .u32 (N : Int)))) (by have := HB2.out; omega) (by omega) X
                      have Y3 : TxG ⟨es, us, N⟩ := ⟨fun i hi => by have := HIU2.out i hi; omega, fun o ho => by have := HU3.out o ho; omega⟩
                      ⟨⟨(inK_plain Y1).rd, (outK_plain Y2).rd, HN4.out, Y3⟩, fun W x => ⟨(inK_plain (inK_above Y1 (by omega) (by omega) x)).rd, (outK_plain (outK_above Y2 (by have := HB2.out; omega) (by omega) x)).rd, HN4.out, Y3⟩⟩)
                    clear HOI HOU RT NN
                    have k0 := HRT.out.cell (i := 0) (v := .slice none 0 0) rfl
                    have k1 := HRT.out.cell (i := 1) (v := .slice none 0 0) rfl
                    have k2 := HRT.out.cell (i := 2) (v := .int .u32 0) rfl
                    have f0 := HRT.out.frozen 0
                    have f1 := HRT.out.frozen 1
                    have f2 := HRT.out.frozen 2
                    by_cases hX : 8000 < q + 4 - at_
                    · have hR := Lib.hid (HTD3.out (by first | exact rfl | trivial) hX)
                      go_wp2_with fail
                      exact bodyPost_ret (results_cell_row3 Tryz.results50 _ _ w.heap.size 54 (tcel (.slice none 0 0) (.slice none 0 0) 0) (0, 0) _ rfl (((HRT.out.set 0 _).set 1 _).set 2 _) Tryz.underlying54 rfl (txz _ _ _)) rfl ⟨_, _, by rw [hR.out]; rfl, by rw [hR.out]; exact TxFree.z _ _, ((HNN.out.setAt (i := 0) _ (Nat.le_refl _)).setAt (i := 1) _ (Nat.le_refl _)).setAt (i := 2) _ (Nat.le_refl _)⟩
                    · have hR := Lib.hid (HTE3.out (by first | exact rfl | trivial) (by omega))
                      go_wp2_with (refine wpList_load_row rfl 54 (.tmp 7) rfl (w.heap.size + 1) rfl 54 #[.slice Av es.length cv, .slice Aw us.length cw, .int .u32 (N : Int)] (0, 0) _ RGS Tryz.underlying54 rfl cz.out ?_)
                      exact bodyPost_ret (results_cell_row3 Tryz.results50 _ _ w.heap.size 54 (tcel (.slice Av es.length cv) (.slice Aw us.length cw) N) (0, 0) _ rfl (((HRT.out.set 0 _).set 1 _).set 2 _) Tryz.underlying54 rfl (txz _ _ _)) rfl ⟨_, _, by rw [hR.out]; rfl, by rw [hR.out]; exact TA.out _ _ _, ((HNN.out.setAt (i := 0) _ (Nat.le_refl _)).setAt (i := 1) _ (Nat.le_refl _)).setAt (i := 2) _ (Nat.le_refl _)⟩
                  · have dF : (F != 0) = true := by simp [hF]
                    have k0 := RT.out.cell (i := 0) (v := .slice none 0 0) rfl
                    have k1 := RT.out.cell (i := 1) (v := .slice none 0 0) rfl
                    have k2 := RT.out.cell (i := 2) (v := .int .u32 0) rfl
                    have f0 := RT.out.frozen 0
                    have f1 := RT.out.frozen 1
                    have f2 := RT.out.frozen 2
                    have hR := Lib.hid (HTC3.out F (by first | exact rfl | trivial) hF)
                    go_wp2_with fail
                    exact bodyPost_ret (results_cell_row3 Tryz.results50 _ _ w.heap.size 54 (tcel (.slice none 0 0) (.slice none 0 0) 0) (0, 0) _ rfl (((RT.out.set 0 _).set 1 _).set 2 _) Tryz.underlying54 rfl (txz _ _ _)) rfl ⟨_, _, by rw [hR.out]; rfl, by rw [hR.out]; exact TxFree.z _ _, ((NN.out.setAt (i := 0) _ (Nat.le_refl _)).setAt (i := 1) _ (Nat.le_refl _)).setAt (i := 2) _ (Nat.le_refl _)⟩
          · have dE2 : (E2 != 0) = true := by simp [hE2]
            have k0 := RT.out.cell (i := 0) (v := .slice none 0 0) rfl
            have k1 := RT.out.cell (i := 1) (v := .slice none 0 0) rfl
            have k2 := RT.out.cell (i := 2) (v := .int .u32 0) rfl
            have f0 := RT.out.frozen 0
            have f1 := RT.out.frozen 1
            have f2 := RT.out.frozen 2
            have hR := Lib.hid (HTB2.out E2 (HLB2.out E2 (by first | exact rfl | trivial) hE2) hE2)
            go_wp2_with fail
            exact bodyPost_ret (results_cell_row3 Tryz.results50 _ _ w.heap.size 54 (tcel (.slice none 0 0) (.slice none 0 0) 0) (0, 0) _ rfl (((RT.out.set 0 _).set 1 _).set 2 _) Tryz.underlying54 rfl (txz _ _ _)) rfl ⟨_, _, by rw [hR.out]; rfl, by rw [hR.out]; exact TxFree.z _ _, ((NN.out.setAt (i := 0) _ (Nat.le_refl _)).setAt (i := 1) _ (Nat.le_refl _)).setAt (i := 2) _ (Nat.le_refl _)⟩
  · have dE : (E != 0) = true := by simp [hE]
    have k0 := RT.out.cell (i := 0) (v := .slice none 0 0) rfl
    have k1 := RT.out.cell (i := 1) (v := .slice none 0 0) rfl
    have k2 := RT.out.cell (i := 2) (v := .int .u32 0) rfl
    have f0 := RT.out.frozen 0
    have f1 := RT.out.frozen 1
    have f2 := RT.out.frozen 2
    have hR := Lib.hid (HA.out E (HLB.out E rfl hE) hE)
    go_wp2_with fail
    exact bodyPost_ret (results_cell_row3 Tryz.results50 _ _ w.heap.size 54 (tcel (.slice none 0 0) (.slice none 0 0) 0) (0, 0) _ rfl (((RT.out.set 0 _).set 1 _).set 2 _) Tryz.underlying54 rfl (txz _ _ _)) rfl ⟨_, _, by rw [hR.out]; rfl, by rw [hR.out]; exact TxFree.z _ _, ((NN.out.setAt (i := 0) _ (Nat.le_refl _)).setAt (i := 1) _ (Nat.le_refl _)).setAt (i := 2) _ (Nat.le_refl _)⟩
end Go.Proofs.YtejeekbpeinioaaGreatDoor
end

section
namespace Go.Proofs.YtejeekbpeinioaaGreatDoor
open Go Go.RowKit
set_option linter.unusedVariables false
set_option linter.unusedSimpArgs false

theorem tgT_le {l : List UInt8} {at_ : Int} (h : (tgT l at_).2.2 = 0) : (tgT l at_).2.1 ≤ l.length := by
  rcases hT : lsO (inT l) (cnT l at_ 16) with ⟨TL, TP, TE⟩
  by_cases hE : TE = 0
  · subst hE
    rcases hU : lsO (otT l) (cnT l TP 16) with ⟨UL, UP, UE⟩
    by_cases hE2 : UE = 0
    · subst hE2
      by_cases hg : getE l.length UP 4 = 0
      · by_cases hx : 8000 < UP + 4 - at_
        · rw [tg_d hT hU hg hx] at h; cases h
        · rw [tg_e hT hU hg hx]; have := getE_ok hg; show UP + 4 ≤ _; omega
      · rw [tg_c hT hU rfl hg] at h; exact absurd h hg
    · rw [tg_b (c := UE) hT (by rw [hU]) hE2] at h; exact absurd h hE2
  · rw [tg_a (c := TE) (by rw [hT]) hE] at h; exact absurd h hE
end Go.Proofs.YtejeekbpeinioaaGreatDoor
end
