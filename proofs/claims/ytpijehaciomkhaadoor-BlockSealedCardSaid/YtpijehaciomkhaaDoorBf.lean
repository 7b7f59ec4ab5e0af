/- TEXTS OF OUR OWN, IN ONE FILE. -/
import Derived.Test.YtpijehaciomkhaaDoorBb
import Derived.Test.YtpijehaciomkhaaDoorBd
import Derived.Test.YtpijehaciomkhaaDoorTxP
import Derived.Test.YtpijehaciomkhaaDoorTx19
import Derived.Test.YtpijehaciomkhaaDoorTr
section
namespace Go.Proofs.YtpijehaciomkhaaDoor
open Go Go.RowKit
set_option linter.unusedVariables false
set_option linter.unusedSimpArgs false
set_option linter.unusedVariables false
set_option linter.unusedSimpArgs false

theorem hdB_length (p r : List UInt8) (t b n : Nat) (hp : p.length = 32) (hr : r.length = 32) : (hdB p r t b n).length = 76 := by simp [hdB, hp, hr]
structure Blk where
  p : List UInt8
  r : List UInt8
  t : Nat
  b : Nat
  n : Nat
  txs : List Txn
def blZ : Blk := ⟨Z32h, Z32h, 0, 0, 0, []⟩
def txsB (l : List Txn) : List UInt8 := (l.map txB).flatten
/-- May these be a block's? -/
def lisT (l : List Txn) : Bool := decide (1 ≤ l.length) && (decide (l.length ≤ 16) && l.all mayT)
def blB (B : Blk) : List UInt8 := hdB B.p B.r B.t B.b B.n ++ (countL B.txs.length ++ txsB B.txs)
def blM (B : Blk) : Bool := lisT B.txs && decide ((blB B).length ≤ 20000)
def bpE (B : Blk) : Int := if blM B = true then 0 else 2
def bpT (B : Blk) : List UInt8 := if blM B = true then blB B else []
def liE (l : List Txn) : Int := if lisT l = true then 0 else 2
def idsL (l : List Txn) : Hs := if lisT l = true then l.map idH else []
def roB (l : List Txn) : Bool := lisT l && rootB (idsL l)
def roE (l : List Txn) : Int := if lisT l = true then (if rootB (idsL l) = true then 0 else 5) else 2
def roH (l : List Txn) : List UInt8 := if roB l = true then rootH (idsL l) else Z32h
def seB (B : Blk) : Bool := roB B.txs && decide (roH B.txs = B.r)
def slT (B : Blk) : Blk := if roB B.txs = true then { B with r := roH B.txs } else blZ
/-- What Get answers. -/
def bgT (l : List UInt8) (at_ : Int) : Blk × Int × Int :=
  if (hgT l at_).e ≠ 0 then (blZ, 0, (hgT l at_).e) else
  if (gc l (hgT l at_).at_).2.2 ≠ 0 then (blZ, 0, (gc l (hgT l at_).at_).2.2) else
  if (gc l (hgT l at_).at_).1 = 0 then (blZ, 0, 5) else
  if 16 < (gc l (hgT l at_).at_).1 then (blZ, 0, 3) else
  if (lsT (tgT l) (gc l (hgT l at_).at_).1 (gc l (hgT l at_).at_).2.1).2.2 ≠ 0 then (blZ, 0, (lsT (tgT l) (gc l (hgT l at_).at_).1 (gc l (hgT l at_).at_).2.1).2.2) else
  if 20000 < (lsT (tgT l) (gc l (hgT l at_).at_).1 (gc l (hgT l at_).at_).2.1).2.1 - at_ then (blZ, 0, 3) else
  (⟨(hgT l at_).p, (hgT l at_).r, (hgT l at_).t, (hgT l at_).b, (hgT l at_).n, (lsT (tgT l) (gc l (hgT l at_).at_).1 (gc l (hgT l at_).at_).2.1).1⟩, (lsT (tgT l) (gc l (hgT l at_).at_).1 (gc l (hgT l at_).at_).2.1).2.1, 0)
def brT (l : List UInt8) : Blk × Int := if (bgT l 0).2.2 ≠ 0 then (blZ, (bgT l 0).2.2) else if (bgT l 0).2.1 ≠ l.length then (blZ, 5) else ((bgT l 0).1, 0)
section
variable {l : List UInt8} {at_ : Int}
theorem bg_a {H : HD} (h : hgT l at_ = H) (hc : H.e ≠ 0) : bgT l at_ = (blZ, 0, H.e) := by
  unfold bgT; rw [h, if_pos hc]
theorem bg_b {H : HD} {n : Nat} {p c : Int} (h : hgT l at_ = H) (he : H.e = 0) (h2 : gc l H.at_ = (n, p, c)) (hc : c ≠ 0) : bgT l at_ = (blZ, 0, c) := by
  unfold bgT; rw [h, if_neg (by simp [he]), h2]; dsimp only; rw [if_pos hc]
theorem bg_c {H : HD} {p : Int} (h : hgT l at_ = H) (he : H.e = 0) (h2 : gc l H.at_ = (0, p, 0)) : bgT l at_ = (blZ, 0, 5) := by
  unfold bgT; rw [h, if_neg (by simp [he]), h2]; dsimp only; rw [if_neg (by simp), if_pos rfl]
theorem bg_d {H : HD} {n : Nat} {p : Int} (h : hgT l at_ = H) (he : H.e = 0) (h2 : gc l H.at_ = (n, p, 0)) (hn : n ≠ 0) (hx : 16 < n) : bgT l at_ = (blZ, 0, 3) := by
  unfold bgT; rw [h, if_neg (by simp [he]), h2]; dsimp only; rw [if_neg (by simp), if_neg hn, if_pos hx]
theorem bg_e {H : HD} {n : Nat} {p c q : Int} {T : List Txn} (h : hgT l at_ = H) (he : H.e = 0) (h2 : gc l H.at_ = (n, p, 0)) (hn : n ≠ 0) (hx : ¬ 16 < n) (h3 : lsT (tgT l) n p = (T, q, c)) (hc : c ≠ 0) : bgT l at_ = (blZ, 0, c) := by
  unfold bgT; rw [h, if_neg (by simp [he]), h2]; dsimp only; rw [if_neg (by simp), if_neg hn, if_neg hx, h3]; dsimp only; rw [if_pos hc]
theorem bg_f {H : HD} {n : Nat} {p q : Int} {T : List Txn} (h : hgT l at_ = H) (he : H.e = 0) (h2 : gc l H.at_ = (n, p, 0)) (hn : n ≠ 0) (hx : ¬ 16 < n) (h3 : lsT (tgT l) n p = (T, q, 0)) (hc : 20000 < q - at_) : bgT l at_ = (blZ, 0, 3) := by
  unfold bgT; rw [h, if_neg (by simp [he]), h2]; dsimp only; rw [if_neg (by simp), if_neg hn, if_neg hx, h3]; dsimp only; rw [if_neg (by simp), if_pos hc]
theorem bg_g {H : HD} {n : Nat} {p q : Int} {T : List Txn} (h : hgT l at_ = H) (he : H.e = 0) (h2 : gc l H.at_ = (n, p, 0)) (hn : n ≠ 0) (hx : ¬ 16 < n) (h3 : lsT (tgT l) n p = (T, q, 0)) (hc : ¬ 20000 < q - at_) : bgT l at_ = (⟨H.p, H.r, H.t, H.b, H.n, T⟩, q, 0) := by
  unfold bgT; rw [h, if_neg (by simp [he]), h2]; dsimp only; rw [if_neg (by simp), if_neg hn, if_neg hx, h3]; dsimp only; rw [if_neg (by simp), if_neg hc]
end
theorem lisT_parts {l : List Txn} (h : lisT l = true) : 1 ≤ l.length ∧ l.length ≤ 16 ∧ ∀ t ∈ l, mayT t = true := by
  unfold lisT at h
  simp only [Bool.and_eq_true, decide_eq_true_eq, List.all_eq_true] at h
  exact ⟨h.1, h.2.1, h.2.2⟩
theorem lisT_of {l : List Txn} (h1 : 1 ≤ l.length) (h2 : l.length ≤ 16) (h3 : ∀ t ∈ l, mayT t = true) : lisT l = true := by
  unfold lisT
  simp only [Bool.and_eq_true, decide_eq_true_eq, List.all_eq_true]
  exact ⟨h1, h2, h3⟩
theorem lisT_len {l : List Txn} (h : ¬ (1 ≤ l.length ∧ l.length ≤ 16)) : lisT l = false := by
  rw [Bool.eq_false_iff]
  intro hh
  exact h ⟨(lisT_parts hh).1, (lisT_parts hh).2.1⟩
theorem lisT_bad {l : List Txn} (j : Nat) (hj : j < l.length) (h : mayT l[j] = false) : lisT l = false := by
  rw [Bool.eq_false_iff]
  intro hh
  have := (lisT_parts hh).2.2 l[j] (List.getElem_mem hj)
  rw [this] at h; cases h
theorem txsB_snoc (l : List Txn) (j : Nat) (hj : j < l.length) : txsB (l.take (j + 1)) = txsB (l.take j) ++ txB l[j] := by
  unfold txsB
  rw [List.take_succ_eq_append_getElem hj, List.map_append, List.flatten_append]
  simp
theorem txsB_len (l : List Txn) (h : ∀ t ∈ l, mayT t = true) : (txsB l).length ≤ l.length * 8000 := by
  induction l with
  | nil => simp [txsB]
  | cons a r ih =>
    have h1 := (mayT_parts (h a (List.mem_cons_self ..))).2.2.2.2
    have h2 := ih fun x hx => h x (List.mem_cons_of_mem _ hx)
    have e : txsB (a :: r) = txB a ++ txsB r := by simp [txsB]
    rw [e, List.length_append, List.length_cons]
    omega
theorem hd_mid (p r : List UInt8) (t b n : Nat) (H : HOk p r t b n) (pre rest : List UInt8) : hgT (pre ++ hdB p r t b n ++ rest) pre.length = ⟨p, r, t, b, n, (pre.length : Int) + 76, 0⟩ := by
  have hl := hdB_length p r t b n H.p H.r
  have hc : cutE (pre ++ hdB p r t b n ++ rest).length (pre.length : Int) 76 = 0 := cutE_ok (i := pre.length) (m := 76) (by simp [hl])
  have hL : cutL (pre ++ hdB p r t b n ++ rest) (pre.length : Int) 76 = hdB p r t b n := by
    have := cutL_ok (l := pre ++ hdB p r t b n ++ rest) (i := pre.length) (m := 76) (by simp [hl])
    rw [show ((76 : Nat) : Int) = (76 : Int) by rfl] at this
    rw [this, List.append_assoc, List.drop_left, ← hl, List.take_left]
  unfold hgT
  rw [if_pos hc, hL]
  unfold hdOf hdB
  have e1 : ∀ x, (low x 4).length = 4 := fun x => by simp
  have d1 : p.drop 64 = [] := List.drop_of_length_le (by rw [H.p]; decide)
  have d2 : p.drop 68 = [] := List.drop_of_length_le (by rw [H.p]; decide)
  have d3 : p.drop 72 = [] := List.drop_of_length_le (by rw [H.p]; decide)
  have d4 : r.drop 36 = [] := List.drop_of_length_le (by rw [H.r]; decide)
  have d5 : r.drop 40 = [] := List.drop_of_length_le (by rw [H.r]; decide)
  have d6 : (low t 4).drop 8 = [] := List.drop_of_length_le (by rw [e1]; decide)
  have n1 := num_low t 4 (by have := H.t; omega)
  have n2 := num_low b 4 (by have := H.b; omega)
  have n3 := num_low n 4 (by have := H.n; omega)
  simp [List.take_append, List.drop_append, H.p, H.r, e1, d1, d2, d3, d4, d5, d6, n1, n2, n3, List.take_of_length_le (Nat.le_of_eq (e1 n))]
theorem lsT_allOk {α : Type} {f : Int → α × Int × Int} {Pr : α → Prop} (h : ∀ p, (f p).2.2 = 0 → Pr (f p).1) : ∀ (k : Nat) (p : Int), (lsT f k p).2.2 = 0 → ∀ a ∈ (lsT f k p).1, Pr a := by
  intro k
  induction k with
  | zero => intro p _ a ha; simp [lsT] at ha
  | succ k ih =>
    intro p hz a ha
    by_cases h1 : (f p).2.2 = 0
    · by_cases h2 : (lsT f k (f p).2.1).2.2 = 0
      · have e : lsT f (k + 1) p = ((f p).1 :: (lsT f k (f p).2.1).1, (lsT f k (f p).2.1).2.1, 0) := by simp [lsT, h1, h2]
        rw [e] at ha
        rcases List.mem_cons.1 ha with rfl | ha
        · exact h p h1
        · exact ih _ h2 a ha
      · have : (lsT f (k + 1) p).2.2 = (lsT f k (f p).2.1).2.2 := by simp [lsT, h1, h2]
        rw [this] at hz
        exact absurd hz h2
    · have : (lsT f (k + 1) p).2.2 = (f p).2.2 := by simp [lsT, h1]
      rw [this] at hz
      exact absurd hz h1
/-- What a block has, in bounds. -/
structure BlOk (B : Blk) : Prop where
  h : HOk B.p B.r B.t B.b B.n
  x : ∀ t ∈ B.txs, t.after < 4294967296 ∧ ∀ i ∈ t.ins, InOk i
theorem blM_parts {B : Blk} (h : blM B = true) : lisT B.txs = true ∧ (blB B).length ≤ 20000 := by
  unfold blM at h
  simpa using h
/-- A block's bytes are got back. -/
theorem bl_back (B : Blk) (pre rest : List UInt8) (hm : blM B = true) (ho : BlOk B) : bgT (pre ++ blB B ++ rest) pre.length = (B, (pre.length : Int) + ((blB B).length : Int), 0) := by
  obtain ⟨m1, m2⟩ := blM_parts hm
  obtain ⟨m3, m4, m5⟩ := lisT_parts m1
  have hl := hdB_length B.p B.r B.t B.b B.n ho.h.p ho.h.r
  have e0 : pre ++ blB B ++ rest = pre ++ hdB B.p B.r B.t B.b B.n ++ (countL B.txs.length ++ txsB B.txs ++ rest) := by simp [blB]
  have h1 := hd_mid B.p B.r B.t B.b B.n ho.h pre (countL B.txs.length ++ txsB B.txs ++ rest)
  rw [← e0] at h1
  have e1 : pre ++ blB B ++ rest = (pre ++ hdB B.p B.r B.t B.b B.n) ++ countL B.txs.length ++ (txsB B.txs ++ rest) := by simp [blB]
  have h2 := gc_count (pre ++ hdB B.p B.r B.t B.b B.n) (txsB B.txs ++ rest) B.txs.length (by omega)
  rw [← e1] at h2
  have l1 : (((pre ++ hdB B.p B.r B.t B.b B.n).length : Nat) : Int) = (pre.length : Int) + 76 := by rw [List.length_append, hl]; push_cast; rfl
  rw [l1] at h2
  have e2 : pre ++ blB B ++ rest = (pre ++ hdB B.p B.r B.t B.b B.n ++ countL B.txs.length) ++ (B.txs.map txB).flatten ++ rest := by simp [blB, txsB]
  have h3 := ls_mid tgT txB B.txs (pre ++ hdB B.p B.r B.t B.b B.n ++ countL B.txs.length) rest (fun a ha pre rest => tx_back a pre rest (m5 a ha) (ho.x a ha).2 (ho.x a ha).1)
  rw [← e2] at h3
  have l2 : (((pre ++ hdB B.p B.r B.t B.b B.n ++ countL B.txs.length).length : Nat) : Int) = (pre.length : Int) + 76 + ((countL B.txs.length).length : Int) := by rw [List.length_append]; push_cast; rw [l1]
  rw [l2] at h3
  have l3 : (blB B).length = 76 + ((countL B.txs.length).length + ((B.txs.map txB).flatten).length) := by simp only [blB, txsB, List.length_append, hl]
  rw [bg_g h1 rfl h2 (by omega) (by omega) h3 (by omega)]
  rw [l3]
  push_cast
  refine Prod.ext rfl (Prod.ext ?_ rfl)
  dsimp only
  omega
/-- What is got is put as the same bytes. -/
theorem bl_got {l : List UInt8} {at_ : Int} (h : (bgT l at_).2.2 = 0) : blM (bgT l at_).1 = true ∧ ∃ i k : Nat, at_ = (i : Int) ∧ (bgT l at_).2.1 = ((i + k : Nat) : Int) ∧ i + k ≤ l.length ∧ k ≤ 20000 ∧ blB (bgT l at_).1 = (l.drop i).take k := by
  by_cases he : (hgT l at_).e = 0
  · rcases hg : gc l (hgT l at_).at_ with ⟨n, p, c⟩
    by_cases hc : c = 0
    · subst hc
      by_cases hn : n = 0
      · subst hn; rw [bg_c rfl he hg] at h; cases h
      · by_cases hx : 16 < n
        · rw [bg_d rfl he hg hn hx] at h; cases h
        · rcases h3 : lsT (tgT l) n p with ⟨T, q, c⟩
          by_cases hc : c = 0
          · subst hc
            by_cases h20 : 20000 < q - at_
            · rw [bg_f rfl he hg hn hx h3 h20] at h; cases h
            · rw [bg_g rfl he hg hn hx h3 h20]
              dsimp only
              obtain ⟨i, rfl, a1, a2, a3, a4⟩ := hgT_ok he
              obtain ⟨i2, k, b1, rfl, b2, b3, b4⟩ := gc_got hg
              obtain rfl : i2 = i + 76 := by omega
              obtain ⟨k2, c1, c2, c3, c4⟩ := ls_got (tgT l) txB l (fun p hp => by obtain ⟨_, i, k, x1, x2, x3, _, x4⟩ := tx_got hp; exact ⟨i, k, x1, x2, x3, x4⟩) n (i + 76 + k) (by omega) (by rw [h3])
              have g1 := lsT_allOk (f := tgT l) (Pr := fun a => mayT a = true) (fun p hp => (tx_got hp).1) n ((i + 76 + k : Nat) : Int) (by rw [h3])
              rw [h3] at c1 c3 c4 g1
              dsimp only at c1 c3 c4 g1
              subst c1
              have hB : blB ⟨(hgT l (i : Int)).p, (hgT l (i : Int)).r, (hgT l (i : Int)).t, (hgT l (i : Int)).b, (hgT l (i : Int)).n, T⟩ = (l.drop i).take (76 + k + k2) := by
                show hdB _ _ _ _ _ ++ (countL T.length ++ (T.map txB).flatten) = _
                rw [a4, c4, b4, c3, List.take_add, List.take_add, List.drop_drop, List.drop_drop, List.append_assoc, show i + (76 + k) = i + 76 + k by omega]
              have hlen : ((l.drop i).take (76 + k + k2)).length = 76 + k + k2 := by rw [List.length_take, List.length_drop]; omega
              refine ⟨?_, i, 76 + k + k2, rfl, by push_cast; omega, by omega, by omega, hB⟩
              unfold blM
              rw [hB, hlen, lisT_of (by show 1 ≤ T.length; omega) (by show T.length ≤ 16; omega) g1]
              simp
              omega
          · rw [bg_e rfl he hg hn hx h3 hc] at h; exact absurd h hc
    · rw [bg_b rfl he hg hc] at h; exact absurd h hc
  · rw [bg_a rfl he] at h; exact absurd h he
end Go.Proofs.YtpijehaciomkhaaDoor
end

section
namespace Go.Proofs.YtpijehaciomkhaaDoor
open Go Go.RowKit
set_option linter.unusedVariables false
set_option linter.unusedSimpArgs false
set_option linter.unusedVariables false
set_option linter.unusedSimpArgs false

/-- What may have changed: blocks of F, and block s. -/
structure GrF (F : Nat → Prop) (s : Option Nat) (w W : World) : Prop where
  os : W.os = w.os
  tape : W.tape = w.tape
  output : W.output = w.output
  size : w.heap.size ≤ W.heap.size
  block : ∀ k, k < w.heap.size → ¬ F k → some k ≠ s → W.heap[k]? = w.heap[k]?
section
variable {F : Nat → Prop} {s : Option Nat} {w w' W : World}
theorem GrF.refl : GrF F s w w := ⟨rfl, rfl, rfl, Nat.le_refl _, fun _ _ _ _ => rfl⟩
theorem GrF.of_nx (h : Nx w W) : GrF F s w W := ⟨h.os, h.tape, h.output, h.size, fun k hk _ _ => h.block k hk⟩
theorem GrF.of_gr (h : w.grownBy W s) : GrF F s w W := ⟨h.os, h.tape, h.output, h.size, fun k hk _ hs => h.block k hk hs⟩
theorem GrF.trans (h : GrF F s w w') (k : GrF F s w' W) : GrF F s w W := ⟨k.os.trans h.os, k.tape.trans h.tape, k.output.trans h.output, Nat.le_trans h.size k.size, fun i hi hf hs => (k.block i (Nat.lt_of_lt_of_le hi h.size) hf hs).trans (h.block i hi hf hs)⟩
theorem GrF.widen (h : GrF F none w W) : GrF F s w W := ⟨h.os, h.tape, h.output, h.size, fun k hk hf _ => h.block k hk hf (by simp)⟩
theorem GrF.narrow (h : GrF F s w W) (hs : ∀ q, s = some q → w.heap.size ≤ q) : GrF F none w W := ⟨h.os, h.tape, h.output, h.size, fun k hk hf _ => h.block k hk hf (fun e => by have := hs k e.symm; omega)⟩
end
/-- No block. -/
def noF : Nat → Prop := fun _ => False
theorem GrF.nx {w W : World} (h : GrF noF none w W) : Nx w W := ⟨h.os, h.tape, h.output, h.size, fun k hk => h.block k hk id (by simp)⟩
theorem TxAt.slv {w : World} {iv ov : Value} {t : Txn} (h : TxAt w iv ov t) : ∃ A c A' c', iv = .slice A t.ins.length c ∧ ov = .slice A' t.outs.length c' := by
  obtain ⟨A, c, rfl, -⟩ := h.i.elem
  obtain ⟨B, d, rfl, -⟩ := h.o.elem
  exact ⟨A, c, B, d, rfl, rfl⟩
def tcl (iv ov : Value) (a : Nat) : List Value := [iv, ov, .int .u32 (a : Int)]
/-- Transactions as elements. -/
def txE (F : Nat → Prop) : El Txn where
  E := 39
  k := 3
  pos := by decide
  rd := fun s w cs t => ∃ iv ov, cs = tcl iv ov t.after ∧ ∀ W, GrF F s w W → TxAt W iv ov t
  len := by rintro s w cs a ⟨iv, ov, rfl, h⟩; rfl
  one := by
    rintro s w cs a ⟨iv, ov, rfl, h⟩ x hx
    obtain ⟨A, c, A', c', rfl, rfl⟩ := (h w GrF.refl).slv
    simp only [tcl, List.mem_cons, List.not_mem_nil, or_false] at hx
    rcases hx with rfl | rfl | rfl <;> rfl
  nx := by rintro s w w' cs a ⟨iv, ov, rfl, h⟩ x; exact ⟨iv, ov, rfl, fun W k => h W ((GrF.of_nx x).trans k)⟩
  grown := by rintro s w w' cs a ⟨iv, ov, rfl, h⟩ x; exact ⟨iv, ov, rfl, fun W k => h W ((GrF.of_gr x).trans k)⟩
  free := by rintro s w cs a ⟨iv, ov, rfl, h⟩; exact ⟨iv, ov, rfl, fun W k => h W k.widen⟩
  apart := by rintro s w cs a ⟨iv, ov, rfl, h⟩ hs; exact ⟨iv, ov, rfl, fun W k => h W (k.narrow hs)⟩
theorem txE_of {w : World} {iv ov : Value} {t : Txn} (h : TxAt w iv ov t) : (txE noF).rd none w (tcl iv ov t.after) t := ⟨iv, ov, rfl, fun W k => h.nx k.nx⟩
theorem txE_free {B : Nat} {F : Nat → Prop} {s : Option Nat} {w : World} {iv ov : Value} {t : Txn} (h : TxFree B w iv ov t) (hF : ∀ k, F k → k < B) (hs : ∀ q, s = some q → q < B) : (txE F).rd s w (tcl iv ov t.after) t :=
  ⟨iv, ov, rfl, fun W k => h.2 W ⟨k.os, k.tape, k.output, k.size, fun i hi hl => k.block i hl (fun f => by have := hF i f; omega) (fun e => by have := hs i e.symm; omega)⟩⟩
theorem TxFree.of_new {B : Nat} {w : World} {iv ov : Value} {t : Txn} (h : TxNew B w iv ov t) : TxFree B w iv ov t := by
  refine ⟨h.at, fun W x => ?_⟩
  obtain ⟨fs, h1, h2, h3⟩ := h.i
  obtain ⟨gs, g1, g2, g3⟩ := h.o
  refine ⟨⟨fs, ?_, h2.1, fun j hj => ?_⟩, ⟨gs, ?_, g2.1, fun j hj => ?_⟩, h.a, h.g⟩
  · obtain ⟨a0, a1, A, c, rfl, a2, a3, a4⟩ := h1
    refine ⟨a0, a1, A, c, rfl, a2, a3, fun hp => ?_⟩
    obtain ⟨b, o, rfl, hb, hc⟩ := a4 hp
    have := h3 hp b (by simp [Value.ownBlock])
    exact ⟨b, o, rfl, Nat.lt_of_lt_of_le hb x.size, fun j hj => by rw [x.cell (p := ⟨b, o + j, none⟩) this hb]; exact hc j hj⟩
  · obtain ⟨u, e, b, ho⟩ := h2.2 j hj
    exact ⟨u, e, b, x.rd ho.rd (fun hp q hq => ho.block q hq), fun _ q hq => by cases hq⟩
  · obtain ⟨a0, a1, A, c, rfl, a2, a3, a4⟩ := g1
    refine ⟨a0, a1, A, c, rfl, a2, a3, fun hp => ?_⟩
    obtain ⟨b, o, rfl, hb, hc⟩ := a4 hp
    have := g3 hp b (by simp [Value.ownBlock])
    exact ⟨b, o, rfl, Nat.lt_of_lt_of_le hb x.size, fun j hj => by rw [x.cell (p := ⟨b, o + j, none⟩) this hb]; exact hc j hj⟩
  · obtain ⟨u, e, b, ho⟩ := g2.2 j hj
    exact ⟨u, e, b, x.rd ho.rd (fun hp q hq => ho.block q hq), fun _ q hq => by cases hq⟩
theorem txsB_snocL (l : List Txn) (j : Nat) (hj : j < l.length) : (l.take (j + 1)).map txB = (l.take j).map txB ++ [txB l[j]] := by
  rw [List.take_succ_eq_append_getElem hj, List.map_append]
  rfl
/-- The cells of a block. -/
def blc (B : Blk) (tv : Value) : Array Value := (hdl B.p B.r B.t B.b B.n ++ [tv]).toArray
theorem hdl_length (p r : List UInt8) (t b n : Nat) (hp : p.length = 32) (hr : r.length = 32) : (hdl p r t b n).length = 67 := by simp [hdl, bvs, hp, hr]
theorem blc_size (B : Blk) (tv : Value) (H : HOk B.p B.r B.t B.b B.n) : (blc B tv).size = 68 := by simp [blc, hdl_length _ _ _ _ _ H.p H.r]
theorem blc_v (B : Blk) (tv : Value) (H : HOk B.p B.r B.t B.b B.n) : (blc B tv)[67]? = some tv := by
  simp [blc, hdl_length _ _ _ _ _ H.p H.r, List.getElem?_append_right]
theorem blc_h (B : Blk) (tv : Value) (j : Nat) (x : Value) (hj : (hdc B.p B.r B.t B.b B.n)[j]? = some x) : (blc B tv)[j]? = some x := by
  simp only [hdc, blc, List.getElem?_toArray] at *
  rw [List.getElem?_append_left (List.getElem?_eq_some_iff.1 hj).1]
  exact hj
theorem blc_one (B : Blk) (tv : Value) (h : tv.oneCell' = true) : (blc B tv).all (·.oneCell') = true := by
  rw [Array.all_eq_true']
  intro x hx
  simp only [blc, List.mem_toArray, List.mem_append, List.mem_singleton] at hx
  rcases hx with h1 | rfl
  · have := hd_one B.p B.r B.t B.b B.n
    rw [Array.all_eq_true'] at this
    exact this x (by simpa [hdc] using h1)
  · exact h
/-- A block lies here. -/
structure BlAt (w : World) (tv : Value) (B : Blk) : Prop where
  h : HOk B.p B.r B.t B.b B.n
  x : RdE (txE noF) w tv B.txs
theorem BlAt.nx {w w' : World} {tv : Value} {B : Blk} (h : BlAt w tv B) (k : Nx w w') : BlAt w' tv B := ⟨h.h, h.x.nx k⟩
theorem HOkZ : HOk Z32h Z32h 0 0 0 := ⟨Z32_lengthh, Z32_lengthh, by decide, by decide, by decide⟩
theorem blAt_z (w : World) : BlAt w (.slice none 0 0) blZ := ⟨HOkZ, RdE.nil _⟩
theorem BlAt.ok {w : World} {tv : Value} {B : Blk} (h : BlAt w tv B) : BlOk B := ⟨h.h, fun t ht => by
  obtain ⟨j, hj, rfl⟩ := List.getElem_of_mem ht
  obtain ⟨A, c, e, -, -, hel⟩ := h.x.elem
  obtain ⟨b, o, cs, -, -, ⟨iv, ov, -, hw⟩, -⟩ := hel j hj
  have := hw w GrF.refl
  refine ⟨this.a, fun i hi => ?_⟩
  obtain ⟨k, hk, rfl⟩ := List.getElem_of_mem hi
  obtain ⟨A, c, e, -, -, hel⟩ := this.i.elem
  obtain ⟨b, o, cs, -, -, ⟨u, -, ok, -⟩, -⟩ := hel k hk
  exact ok⟩
theorem info_block : (Tryd.prog.info? 29).map (fun i => (i.zero, i.size)) = some (some (.agg (blc blZ (.slice none 0 0))), 68) := by kernel_rfl
theorem blocksz (B : Blk) (tv : Value) (H : HOk B.p B.r B.t B.b B.n) : (Tryd.prog.info? 29).map (·.size) = some (blc B tv).size := by
  rw [blc_size B tv H]; kernel_rfl
end Go.Proofs.YtpijehaciomkhaaDoor
end
