/- TEXTS OF OUR OWN, IN ONE FILE. -/
import Derived.Test.YtpijehaciomkhaaDoorTh
import Derived.Test.YtpijehaciomkhaaDoorTg
import Derived.Test.YtpijehaciomkhaaDoorTe
import Derived.Test.YtpijehaciomkhaaDoorTi
import Derived.Test.YtpijehaciomkhaaDoorTl
import Derived.Test.YtpijehaciomkhaaDoorTk
import Derived.Test.YtpijehaciomkhaaDoorTb
import Derived.Test.YtpijehaciomkhaaDoorTa
section
namespace Go.Proofs.YtpijehaciomkhaaDoor
open Go Go.RowKit
set_option linter.unusedVariables false
set_option linter.unusedSimpArgs false

structure Inp where
  x : List UInt8
  n : Nat
  h : Nat
  u : List UInt8
structure Outp where
  v : Nat
  l : List UInt8
structure Txn where
  ins : List Inp
  outs : List Outp
  after : Nat
def icl (i : Inp) (u : Value) : List Value := pcl i.x i.n i.h ++ [u]
def icel (i : Inp) (u : Value) : Array Value := (icl i u).toArray
def ocel (o : Outp) (u : Value) : Array Value := #[.int .u64 (o.v : Int), u]
def InOk (i : Inp) : Prop := i.x.length = 32 ∧ i.n < 65536 ∧ i.h < 4294967296
theorem icl_length (i : Inp) (u : Value) (h : InOk i) : (icl i u).length = 35 := by simp [icl, pcl, bvs, h.1]
theorem icel_size (i : Inp) (u : Value) (h : InOk i) : (icel i u).size = 35 := by simp [icel, icl_length i u h]
theorem icel_u (i : Inp) (u : Value) (h : InOk i) : (icel i u)[34]? = some u := by
  simp [icel, icl, pcl, bvs, h.1, List.getElem?_append_right]
theorem icel_p (i : Inp) (u : Value) (j : Nat) (x : Value) (hj : (pcel i.x i.n i.h)[j]? = some x) : (icel i u)[j]? = some x := by
  simp only [pcel, icel, icl, List.getElem?_toArray] at *
  rw [List.getElem?_append_left (List.getElem?_eq_some_iff.1 hj).1]
  exact hj
theorem icel_one (i : Inp) (u : Value) (hu : u.oneCell' = true) : (icel i u).all (·.oneCell') = true := by
  rw [Array.all_eq_true']
  intro x hx
  simp only [icel, icl, List.mem_toArray, List.mem_append, List.mem_singleton] at hx
  rcases hx with h | rfl
  · have := pcel_one i.x i.n i.h
    rw [Array.all_eq_true'] at this
    exact this x (by simpa [pcel] using h)
  · exact hu
def inRd (s : Option Nat) (w : World) (cs : List Value) (i : Inp) : Prop := ∃ u, cs = icl i u ∧ InOk i ∧ RdS s w u i.u
def inEl : El Inp where
  E := 45
  k := 35
  pos := by decide
  rd := inRd
  len := by rintro s w cs a ⟨u, rfl, h, _⟩; exact icl_length a u h
  one := by
    rintro s w cs a ⟨u, rfl, _, h⟩ x hx
    obtain ⟨A, c, rfl⟩ := h.sl
    have := icel_one a (.slice A a.u.length c) rfl
    rw [Array.all_eq_true'] at this
    exact this x (by simpa [icel] using hx)
  nx := by rintro s w w' cs a ⟨u, rfl, k, h⟩ x; exact ⟨u, rfl, k, h.nx x⟩
  grown := by rintro s w w' cs a ⟨u, rfl, k, h⟩ x; exact ⟨u, rfl, k, h.grown x⟩
  free := by rintro s w cs a ⟨u, rfl, k, h⟩; exact ⟨u, rfl, k, h.free⟩
  apart := by rintro s w cs a ⟨u, rfl, k, h⟩ hs; exact ⟨u, rfl, k, h.apart hs⟩
def outRd (s : Option Nat) (w : World) (cs : List Value) (o : Outp) : Prop := ∃ u, cs = [.int .u64 (o.v : Int), u] ∧ o.v ≤ 18446744073709551615 ∧ RdS s w u o.l
def outEl : El Outp where
  E := 48
  k := 2
  pos := by decide
  rd := outRd
  len := by rintro s w cs a ⟨u, rfl, h, _⟩; rfl
  one := by
    rintro s w cs a ⟨u, rfl, _, h⟩ x hx
    obtain ⟨A, c, rfl⟩ := h.sl
    simp at hx
    rcases hx with rfl | rfl <;> rfl
  nx := by rintro s w w' cs a ⟨u, rfl, k, h⟩ x; exact ⟨u, rfl, k, h.nx x⟩
  grown := by rintro s w w' cs a ⟨u, rfl, k, h⟩ x; exact ⟨u, rfl, k, h.grown x⟩
  free := by rintro s w cs a ⟨u, rfl, k, h⟩; exact ⟨u, rfl, k, h.free⟩
  apart := by rintro s w cs a ⟨u, rfl, k, h⟩ hs; exact ⟨u, rfl, k, h.apart hs⟩
/-- A list that is read, element by element. -/
theorem RdE.elem {α : Type} {L : El α} {w : World} {v : Value} {es : List α} (h : RdE L w v es) : ∃ A c, v = .slice A es.length c ∧ es.length ≤ c ∧ c ≤ maxLen ∧ ∀ j (hj : j < es.length), ∃ b o cs, A = some ⟨b, o, none⟩ ∧ b < w.heap.size ∧ L.rd none w cs es[j] ∧ ∀ i u, cs[i]? = some u → w.cell? ⟨b, o + j * L.k + i, none⟩ = some u := by
  obtain ⟨A, c, fs, rfl, h1, h2, hall, hc⟩ := h.parts
  refine ⟨A, c, rfl, h1, h2, fun j hj => ?_⟩
  obtain ⟨b, o, rfl, hb, hcell⟩ := hc (by omega)
  obtain ⟨cs, hl, hr, hf⟩ := hall.at j hj
  refine ⟨b, o, cs, rfl, hb, hr, fun i u hi => ?_⟩
  obtain ⟨hi1, rfl⟩ := List.getElem?_eq_some_iff.1 hi
  obtain ⟨hff, e⟩ := hf i hi1
  rw [Nat.add_assoc, hcell _ hff, e]

/-- An input's bytes, an output's, a transaction's. -/
def inB (i : Inp) : List UInt8 := ptL i.x i.n i.h ++ rowL i.u
def insB (l : List Inp) : List UInt8 := (l.map inB).flatten
def outsB (l : List Outp) : List UInt8 := (l.map fun o => outB o.v o.l).flatten
def preB (n : Nat) (l : List Inp) : List UInt8 := countL n ++ insB l
def midB (n : Nat) (l : List Inp) (m : Nat) (os : List Outp) : List UInt8 := preB n l ++ countL m ++ outsB os
def txB (t : Txn) : List UInt8 := midB t.ins.length t.ins t.outs.length t.outs ++ putL t.after 4
def mayT (t : Txn) : Bool := decide (t.ins.length ≤ 16) && decide (t.outs.length ≤ 16) && t.ins.all (fun i => decide (i.u.length ≤ 3000)) && t.outs.all (fun o => mayB o.v o.l.length) && decide ((txB t).length ≤ 8000)
def ptE (t : Txn) : Int := if mayT t = true then 0 else 2
def ptT (t : Txn) : List UInt8 := if mayT t = true then txB t else []
theorem insB_snoc (l : List Inp) (j : Nat) (hj : j < l.length) : insB (l.take (j + 1)) = insB (l.take j) ++ inB l[j] := by
  unfold insB
  rw [List.take_succ_eq_append_getElem hj, List.map_append, List.flatten_append]
  simp
theorem outsB_snoc (l : List Outp) (j : Nat) (hj : j < l.length) : outsB (l.take (j + 1)) = outsB (l.take j) ++ outB l[j].v l[j].l := by
  unfold outsB
  rw [List.take_succ_eq_append_getElem hj, List.map_append, List.flatten_append]
  simp
theorem rowL_len (l : List UInt8) : (rowL l).length ≤ l.length + 9 := by
  have := countL_le l.length
  unfold rowL
  rw [List.length_append]
  omega
theorem inB_len (i : Inp) (h : InOk i) (hu : i.u.length ≤ 3000) : (inB i).length ≤ 3057 := by
  have := ptL_short i.x i.n i.h h.1
  have := rowL_len i.u
  unfold inB
  rw [List.length_append]
  omega
theorem outB_len (v : Nat) (l : List UInt8) : (outB v l).length ≤ 200 := by
  unfold outB
  split
  · rename_i h
    have h1 := mayB_true h
    have := rowL_short l h1.2
    have := putL_short v 8
    rw [List.length_append]
    omega
  · simp
theorem insB_len (l : List Inp) (h : ∀ i ∈ l, InOk i ∧ i.u.length ≤ 3000) : (insB l).length ≤ l.length * 3057 := by
  induction l with
  | nil => simp [insB]
  | cons a r ih =>
    have h1 := h a (List.mem_cons_self ..)
    have h2 := inB_len a h1.1 h1.2
    have h3 := ih fun x hx => h x (List.mem_cons_of_mem _ hx)
    have e : insB (a :: r) = inB a ++ insB r := by simp [insB]
    rw [e, List.length_append, List.length_cons]
    omega
theorem outsB_len (l : List Outp) : (outsB l).length ≤ l.length * 200 := by
  induction l with
  | nil => simp [outsB]
  | cons a r ih =>
    have h2 := outB_len a.v a.l
    have e : outsB (a :: r) = outB a.v a.l ++ outsB r := by simp [outsB]
    rw [e, List.length_append, List.length_cons]
    omega
theorem mayT_false_len {t : Txn} (h : ¬ (t.ins.length ≤ 16 ∧ t.outs.length ≤ 16)) : mayT t = false := by
  unfold mayT
  by_cases h1 : t.ins.length ≤ 16
  · have h2 : ¬ t.outs.length ≤ 16 := fun h2 => h ⟨h1, h2⟩
    simp [h2]
  · simp [h1]
theorem mayT_false_in {t : Txn} (j : Nat) (hj : j < t.ins.length) (h : ¬ t.ins[j].u.length ≤ 3000) : mayT t = false := by
  have : t.ins.all (fun i => decide (i.u.length ≤ 3000)) = false := by
    rw [List.all_eq_false]
    exact ⟨t.ins[j], List.getElem_mem hj, by simpa using h⟩
  unfold mayT
  rw [this]
  simp
theorem mayT_false_out {t : Txn} (j : Nat) (hj : j < t.outs.length) (h : mayB t.outs[j].v t.outs[j].l.length = false) : mayT t = false := by
  have : t.outs.all (fun o => mayB o.v o.l.length) = false := by
    rw [List.all_eq_false]
    exact ⟨t.outs[j], List.getElem_mem hj, by simp [h]⟩
  unfold mayT
  rw [this]
  simp
theorem mayT_len {t : Txn} (h1 : t.ins.length ≤ 16) (h2 : t.outs.length ≤ 16) (h3 : ∀ j (hj : j < t.ins.length), t.ins[j].u.length ≤ 3000) (h4 : ∀ j (hj : j < t.outs.length), mayB t.outs[j].v t.outs[j].l.length = true) : mayT t = decide ((txB t).length ≤ 8000) := by
  have e1 : t.ins.all (fun i => decide (i.u.length ≤ 3000)) = true := by
    rw [List.all_eq_true]
    intro x hx
    obtain ⟨j, hj, rfl⟩ := List.getElem_of_mem hx
    exact decide_eq_true (h3 j hj)
  have e2 : t.outs.all (fun o => mayB o.v o.l.length) = true := by
    rw [List.all_eq_true]
    intro x hx
    obtain ⟨j, hj, rfl⟩ := List.getElem_of_mem hx
    exact h4 j hj
  unfold mayT
  rw [e1, e2, decide_eq_true h1, decide_eq_true h2]
  simp
end Go.Proofs.YtpijehaciomkhaaDoor
end

section
namespace Go.Proofs.YtpijehaciomkhaaDoor
open Go Go.RowKit
set_option linter.unusedVariables false
set_option linter.unusedSimpArgs false
set_option linter.unusedVariables false
set_option linter.unusedSimpArgs false

/-- A new block: the operations that lay it and store into it; its cells ahead and behind. -/
structure NB where
  (a s : Nat) (z n : Array Value) (T : TypeId)
/-- An old block that is stored into. -/
structure OB where
  (s g : Nat) (z n : Array Value) (T : TypeId)
/-- But for the blocks S the next world. -/
structure Kp (S : List Nat) (w w' : World) : Prop where
  os : w'.os = w.os
  tape : w'.tape = w.tape
  output : w'.output = w.output
  size : w.heap.size ≤ w'.heap.size
  block : ∀ k, k < w.heap.size → k ∉ S → w'.heap[k]? = w.heap[k]?
theorem Kp.of_nx {S : List Nat} {a b : World} (h : Nx a b) : Kp S a b := ⟨h.os, h.tape, h.output, h.size, fun k hk _ => h.block k hk⟩
theorem Kp.refl (S : List Nat) (w : World) : Kp S w w := .of_nx (Nx.refl w)
theorem Kp.nx {S : List Nat} {a b c : World} (h : Kp S a b) (k : Nx b c) : Kp S a c := ⟨k.os.trans h.os, k.tape.trans h.tape, k.output.trans h.output, Nat.le_trans h.size k.size, fun i hi hs => (k.block i (Nat.lt_of_lt_of_le hi h.size)).trans (h.block i hi hs)⟩
theorem Kp.setNew {S : List Nat} {a b : World} (h : Kp S a b) {g : Nat} (cs : Array Value) (hg : a.heap.size ≤ g) : Kp S a (b.setRow g cs) := ⟨h.os, h.tape, h.output, by rw [size_setRow]; exact h.size, fun k hk hs => by rw [setRow_other _ _ _ _ (by omega)]; exact h.block k hk hs⟩
theorem Kp.setOld {S : List Nat} {a b : World} (h : Kp S a b) {g : Nat} (cs : Array Value) (hg : g ∈ S) : Kp S a (b.setRow g cs) := ⟨h.os, h.tape, h.output, by rw [size_setRow]; exact h.size, fun k hk hs => by
  rw [setRow_other _ _ _ _ (fun e => hs (by rw [e]; exact hg))]; exact h.block k hk hs⟩
theorem Kp.to {S : List Nat} {w0 a b : World} (h : Kp S a b) (hw : Nx w0 a) (hS : ∀ g ∈ S, w0.heap.size ≤ g) : Nx w0 b := ⟨h.os.trans hw.os, h.tape.trans hw.tape, h.output.trans hw.output, Nat.le_trans hw.size h.size, fun k hk => (h.block k (Nat.lt_of_lt_of_le hk hw.size) (fun hs => by have := hS k hs; omega)).trans (hw.block k hk)⟩
theorem Kp.free {a b : World} (h : Kp [] a b) : Nx a b := h.to (Nx.refl a) (fun _ hg => by cases hg)
theorem Row.kp {S : List Nat} {a b : World} {g : Nat} {cs : Array Value} {t : TypeId} (h : Row a g cs t) (k : Kp S a b) (hS : g ∉ S) : Row b g cs t := by
  unfold Row
  rw [k.block g h.lt hS]; exact h
theorem inj_of_nodup {α : Type} (f : α → Nat) : ∀ (l : List α), (l.map f).Nodup → ∀ e ∈ l, ∀ e' ∈ l, f e = f e' → e = e'
  | [], _, e, he, _, _, _ => by cases he
  | x :: l, h, e, he, e', he', hf => by
    rw [List.map_cons, List.nodup_cons] at h
    rcases List.mem_cons.1 he with rfl | h1
    · rcases List.mem_cons.1 he' with rfl | h2
      · rfl
      · exact absurd (List.mem_map.2 ⟨e', h2, hf.symm⟩) h.1
    · rcases List.mem_cons.1 he' with rfl | h2
      · exact absurd (List.mem_map.2 ⟨e, h1, hf⟩) h.1
      · exact inj_of_nodup f l h.2 e h1 e' h2 hf
theorem fillA_upd (t0 : Array Value) (x : Nat → Value) (v : Value) (df : List Deferred) (dl : List (Option Tmp)) (i : Nat) (hi : i < dl.length) (hn : (dl.filterMap id).Nodup) :
    (⟨fillA t0 dl 0 x, df⟩ : Act).put (dl.getD i none) v = ⟨fillA t0 dl 0 (upd x i v), df⟩ := by
  have hdi : dl[i]? = some (dl.getD i none) := by
    rw [List.getD_eq_getElem?_getD, List.getElem?_eq_getElem hi]; rfl
  cases hg : dl.getD i none with
  | none =>
    rw [hg] at hdi
    have := fillA_skip t0 x v dl 0 i (.inl hdi)
    rw [Nat.zero_add] at this
    rw [← this]; rfl
  | some d =>
    rw [hg] at hdi
    have := fillA_put t0 x v d dl 0 i hn hdi
    rw [Nat.zero_add] at this
    rw [← this]; rfl

def spec (nb : List NB) (ob : List OB) : List Nat := nb.map (·.a) ++ nb.map (·.s) ++ ob.map (·.s)
theorem spec_a {nb : List NB} {ob : List OB} {e : NB} (h : e ∈ nb) : e.a ∈ spec nb ob := List.mem_append_left _ (List.mem_append_left _ (List.mem_map.2 ⟨e, h, rfl⟩))
theorem spec_s {nb : List NB} {ob : List OB} {e : NB} (h : e ∈ nb) : e.s ∈ spec nb ob := List.mem_append_left _ (List.mem_append_right _ (List.mem_map.2 ⟨e, h, rfl⟩))
theorem spec_o {nb : List NB} {ob : List OB} {e : OB} (h : e ∈ ob) : e.s ∈ spec nb ob := List.mem_append_right _ (List.mem_map.2 ⟨e, h, rfl⟩)
theorem upd_ne (x : Nat → Value) {i j : Nat} (v : Value) (h : j ≠ i) : upd x i v j = x j := by unfold upd; rw [if_neg h]
theorem upd_eq (x : Nat → Value) (i : Nat) (v : Value) : upd x i v i = v := by unfold upd; rw [if_pos rfl]
theorem or_ne {L : Nat → Bool} {i j : Nat} (h : j ≠ i) : (j == i || L j) = L j := by
  have : (j == i) = false := by rw [beq_eq_false_iff_ne]; exact h
  rw [this, Bool.false_or]
theorem or_eq {L : Nat → Bool} (i : Nat) : (i == i || L i) = true := by simp

section
variable {P : Program} {ops : Array Oper} {Q : Exit → Act → World → Prop}
theorem wp_region_blk {id : Nat} {t0 : Array Value} {df : List Deferred} {w : World} (n : Nat) (needs : List (List Nat)) (dl : List (Option Tmp)) (V : List Value) (nb : List NB) (ob : List OB)
    (hm : P.follows .mixedOrders = true) (hn : needsOf .any ops = needs) (hord : ∀ i, ∀ d ∈ needs.getD i [], d < i)
    (hsz : ops.size = n) (hdl : dl.length = n) (hnd : (dl.filterMap _root_.id).Nodup)
    (hsp : (spec nb ob).Nodup) (has : ∀ q ∈ nb.map (fun e => (e.a, e.s)), q.1 ∈ needs.getD q.2 [])
    (hspn : ∀ i ∈ spec nb ob, i < n) (hob : ∀ e ∈ ob, Row w e.g e.z e.T) (hog : (ob.map (·.g)).Nodup)
    (hstep : ∀ x tm wr, fillA t0 dl 0 x = tm → Kp (ob.map (·.g)) w wr → ∀ i, i < n → i ∉ spec nb ob → (∀ d ∈ needs.getD i [], d ∉ spec nb ob → x d = V.getD d undef) → (∀ e ∈ ob, i ∈ needs.getD e.s [] → Row wr e.g e.z e.T) →
      ∀ K : Act → World → Prop, (∀ w', Nx wr w' → K ((⟨tm, df⟩ : Act).put (dl.getD i none) (V.getD i undef)) w') → wpOp P ops Q i K ⟨tm, df⟩ wr)
    (halloc : ∀ e ∈ nb, ∀ tm wr, ∀ K : Act → World → Prop, K ((⟨tm, df⟩ : Act).put (dl.getD e.a none) (.pointer (some ⟨wr.heap.size, 0, none⟩))) (wr.alloc (.cells e.z e.T)) → wpOp P ops Q e.a K ⟨tm, df⟩ wr)
    (hstore : ∀ e ∈ nb, ∀ x tm wr g, fillA t0 dl 0 x = tm → (∀ d ∈ needs.getD e.s [], d ∉ spec nb ob → x d = V.getD d undef) → x e.a = .pointer (some ⟨g, 0, none⟩) → Row wr g e.z e.T →
      ∀ K : Act → World → Prop, K ((⟨tm, df⟩ : Act).put (dl.getD e.s none) undef) (wr.setRow g e.n) → wpOp P ops Q e.s K ⟨tm, df⟩ wr)
    (hstoreo : ∀ e ∈ ob, ∀ x tm wr, fillA t0 dl 0 x = tm → (∀ d ∈ needs.getD e.s [], d ∉ spec nb ob → x d = V.getD d undef) → Row wr e.g e.z e.T →
      ∀ K : Act → World → Prop, K ((⟨tm, df⟩ : Act).put (dl.getD e.s none) undef) (wr.setRow e.g e.n) → wpOp P ops Q e.s K ⟨tm, df⟩ wr)
    (hend : ∀ x tm wr, fillA t0 dl 0 x = tm → Kp (ob.map (·.g)) w wr → (∀ i, i < n → i ∉ spec nb ob → x i = V.getD i undef) → (∀ e ∈ nb, ∃ g, x e.a = .pointer (some ⟨g, 0, none⟩) ∧ w.heap.size ≤ g ∧ Row wr g e.n e.T) →
      (∀ e ∈ nb, ∀ e' ∈ nb, e.a ≠ e'.a → x e.a ≠ x e'.a) → (∀ e ∈ ob, Row wr e.g e.n e.T) → Q .normal ⟨tm, df⟩ wr) :
    (Code.region id ops true).wp P Q ⟨t0, df⟩ w := by
  subst hsz
  have inja : ∀ e ∈ nb, ∀ e' ∈ nb, e.a = e'.a → e = e' := inj_of_nodup _ nb (List.nodup_append.1 (List.nodup_append.1 hsp).1).1
  have injs : ∀ e ∈ nb, ∀ e' ∈ nb, e.s = e'.s → e = e' := inj_of_nodup _ nb (List.nodup_append.1 (List.nodup_append.1 hsp).1).2.1
  have injo : ∀ e ∈ ob, ∀ e' ∈ ob, e.s = e'.s → e = e' := inj_of_nodup _ ob (List.nodup_append.1 hsp).2.1
  have injg : ∀ e ∈ ob, ∀ e' ∈ ob, e.g = e'.g → e = e' := inj_of_nodup _ ob hog
  have nas : ∀ e ∈ nb, ∀ e' ∈ nb, e.a ≠ e'.s := fun e he e' he' h => (List.nodup_append.1 (List.nodup_append.1 hsp).1).2.2 _ (List.mem_map.2 ⟨e, he, rfl⟩) _ (List.mem_map.2 ⟨e', he', rfl⟩) h
  have nao : ∀ e ∈ nb, ∀ e' ∈ ob, e.a ≠ e'.s := fun e he e' he' h => (List.nodup_append.1 hsp).2.2 _ (List.mem_append_left _ (List.mem_map.2 ⟨e, he, rfl⟩)) _ (List.mem_map.2 ⟨e', he', rfl⟩) h
  have nso : ∀ e ∈ nb, ∀ e' ∈ ob, e.s ≠ e'.s := fun e he e' he' h => (List.nodup_append.1 hsp).2.2 _ (List.mem_append_right _ (List.mem_map.2 ⟨e, he, rfl⟩)) _ (List.mem_map.2 ⟨e', he', rfl⟩) h
  have has' : ∀ e ∈ nb, e.a ∈ needs.getD e.s [] := fun e he => has (e.a, e.s) (List.mem_map.2 ⟨e, he, rfl⟩)
  refine wp_region_inv needs (fun L a w' => ∃ x : Nat → Value, a = ⟨fillA t0 dl 0 x, df⟩ ∧ Kp (ob.map (·.g)) w w' ∧ (∀ j, L j = true → ∀ d ∈ needs.getD j [], L d = true) ∧ (∀ i, i < ops.size → i ∉ spec nb ob → L i = true → x i = V.getD i undef) ∧
    (∀ e ∈ nb, L e.a = true → ∃ g, x e.a = .pointer (some ⟨g, 0, none⟩) ∧ w.heap.size ≤ g ∧ Row w' g (cond (L e.s) e.n e.z) e.T) ∧ (∀ e ∈ nb, ∀ e' ∈ nb, e.a ≠ e'.a → L e.a = true → L e'.a = true → x e.a ≠ x e'.a) ∧ (∀ e ∈ ob, Row w' e.g (cond (L e.s) e.n e.z) e.T)) hm hn hord ?_ ?_ ?_
  · refine ⟨fun i => match dl[i]? with | some (some d) => t0.getD d undef | _ => undef, ?_, .of_nx (Nx.refl w).drew, (fun _ h => by cases h), (fun _ _ _ h => by cases h), (fun _ _ h => by cases h), (fun _ _ _ _ _ h => by cases h), fun e he => ?_⟩
    · rw [fillA_self]
      intro i d hd
      rw [Nat.zero_add]
      simp only [hd]
    · exact (hob e he).drew
  · rintro L a wr ⟨x, rfl, hx, hcl, hnr, hnew, hdis, hold⟩ i hi hL hd K hK
    have hil : i < dl.length := by omega
    have hpin : ∀ {j : Nat}, (j == i || L j) = true → j ≠ i → L j = true := fun h hne => by rwa [or_ne hne] at h
    have hcl2 : ∀ j, (j == i || L j) = true → ∀ d ∈ needs.getD j [], (d == i || L d) = true := fun j hj d hdd => by
      by_cases hji : j = i
      · subst hji; rw [hd d hdd, Bool.or_true]
      · rw [hcl j (hpin hj hji) d hdd, Bool.or_true]
    have hdn : ∀ d ∈ needs.getD i [], d ∉ spec nb ob → x d = V.getD d undef := fun d hdd hs => hnr d (by have := hord i d hdd; omega) hs (hd d hdd)
    have hlate : ∀ s, i ∈ needs.getD s [] → L s = false := fun s hs => by
      rcases h : L s with _ | _
      · rfl
      · rw [hcl s h i hs] at hL; cases hL
    by_cases hisp : i ∈ spec nb ob
    · rcases List.mem_append.1 hisp with h1 | h1
      · rcases List.mem_append.1 h1 with h2 | h2
        · obtain ⟨e, he, rfl⟩ := List.mem_map.1 h2
          refine halloc e he _ wr K ?_
          rw [fillA_upd t0 x _ df dl _ hil hnd]
          refine hK _ _ ⟨_, rfl, hx.nx ((Nx.refl wr).alloc _), hcl2, ?_, ?_, ?_, ?_⟩
          · intro j hj hjs hLj
            have hne : j ≠ e.a := fun h => hjs (by rw [h]; exact spec_a he)
            rw [upd_ne _ _ hne]
            exact hnr j hj hjs (hpin hLj hne)
          · intro e' he' hLe
            by_cases hee : e'.a = e.a
            · obtain rfl := inja e' he' e he hee
              refine ⟨wr.heap.size, upd_eq _ _ _, hx.size, ?_⟩
              dsimp only
              rw [or_ne (nas _ he' _ he').symm, hlate _ (has' _ he'), cond_false]
              exact Row.new _ _ _ _ rfl
            · obtain ⟨g, h1, h2, h3⟩ := hnew e' he' (hpin hLe hee)
              refine ⟨g, by rw [upd_ne _ _ hee]; exact h1, h2, ?_⟩
              dsimp only
              rw [or_ne (nas _ he _ he').symm]
              exact h3.alloc _
          · intro e1 he1 e2 he2 hne hL1 hL2
            by_cases h1 : e1.a = e.a
            · have h2 : e2.a ≠ e.a := fun h => hne (h1.trans h.symm)
              obtain ⟨g, q1, _, q3⟩ := hnew e2 he2 (hpin hL2 h2)
              rw [h1, upd_eq, upd_ne _ _ h2, q1]
              intro h
              have hlt := q3.lt
              injection h with h; injection h with h; injection h with h
              omega
            · by_cases h2 : e2.a = e.a
              · obtain ⟨g, q1, _, q3⟩ := hnew e1 he1 (hpin hL1 h1)
                rw [h2, upd_eq, upd_ne _ _ h1, q1]
                intro h
                have hlt := q3.lt
                injection h with h; injection h with h; injection h with h
                omega
              · rw [upd_ne _ _ h1, upd_ne _ _ h2]
                exact hdis e1 he1 e2 he2 hne (hpin hL1 h1) (hpin hL2 h2)
          · intro e' he'
            dsimp only
            rw [or_ne (nao _ he _ he').symm]
            exact (hold e' he').alloc _
        · obtain ⟨e, he, rfl⟩ := List.mem_map.1 h2
          clear h1 h2
          obtain ⟨g, h1, h2, h3⟩ := hnew e he (hd _ (has' e he))
          rw [hL, cond_false] at h3
          refine hstore e he x _ wr g rfl hdn h1 h3 K ?_
          rw [fillA_upd t0 x _ df dl _ hil hnd]
          refine hK _ _ ⟨_, rfl, hx.setNew _ h2, hcl2, ?_, ?_, ?_, ?_⟩
          · intro j hj hjs hLj
            have hne : j ≠ e.s := fun h => hjs (by rw [h]; exact spec_s he)
            rw [upd_ne _ _ hne]
            exact hnr j hj hjs (hpin hLj hne)
          · intro e' he' hLe
            have hna := nas e' he' e he
            have hLe' := hpin hLe hna
            by_cases hee : e' = e
            · subst hee
              refine ⟨g, by rw [upd_ne _ _ hna]; exact h1, h2, ?_⟩
              dsimp only
              rw [or_eq, cond_true]
              exact h3.setRow _
            · obtain ⟨g', q1, q2, q3⟩ := hnew e' he' hLe'
              have hne : e'.s ≠ e.s := fun h => hee (injs e' he' e he h)
              have hgg : g' ≠ g := fun h => hdis e' he' e he (fun h => hee (inja e' he' e he h)) hLe' (hd _ (has' e he)) (by rw [q1, h1, h])
              refine ⟨g', by rw [upd_ne _ _ hna]; exact q1, q2, ?_⟩
              dsimp only
              rw [or_ne hne]
              exact q3.setRow_other _ hgg
          · intro e1 he1 e2 he2 hne hL1 hL2
            rw [upd_ne _ _ (nas e1 he1 e he), upd_ne _ _ (nas e2 he2 e he)]
            exact hdis e1 he1 e2 he2 hne (hpin hL1 (nas e1 he1 e he)) (hpin hL2 (nas e2 he2 e he))
          · intro e' he'
            dsimp only
            rw [or_ne (nso _ he _ he').symm]
            refine (hold e' he').setRow_other _ ?_
            have := (hob e' he').lt
            omega
      · obtain ⟨e, he, rfl⟩ := List.mem_map.1 h1
        have h3 := hold e he
        rw [hL, cond_false] at h3
        refine hstoreo e he x _ wr rfl hdn h3 K ?_
        rw [fillA_upd t0 x _ df dl _ hil hnd]
        refine hK _ _ ⟨_, rfl, hx.setOld _ (List.mem_map.2 ⟨e, he, rfl⟩), hcl2, ?_, ?_, ?_, ?_⟩
        · intro j hj hjs hLj
          have hne : j ≠ e.s := fun h => hjs (by rw [h]; exact spec_o he)
          rw [upd_ne _ _ hne]
          exact hnr j hj hjs (hpin hLj hne)
        · intro e' he' hLe
          have hna := nao e' he' e he
          obtain ⟨g', q1, q2, q3⟩ := hnew e' he' (hpin hLe hna)
          refine ⟨g', by rw [upd_ne _ _ hna]; exact q1, q2, ?_⟩
          dsimp only
          rw [or_ne (nso e' he' e he)]
          refine q3.setRow_other _ ?_
          have := (hob e he).lt
          omega
        · intro e1 he1 e2 he2 hne hL1 hL2
          rw [upd_ne _ _ (nao e1 he1 e he), upd_ne _ _ (nao e2 he2 e he)]
          exact hdis e1 he1 e2 he2 hne (hpin hL1 (nao e1 he1 e he)) (hpin hL2 (nao e2 he2 e he))
        · intro e' he'
          by_cases hee : e' = e
          · subst hee
            dsimp only
            rw [or_eq, cond_true]
            exact h3.setRow _
          · have hne : e'.s ≠ e.s := fun h => hee (injo e' he' e he h)
            dsimp only
            rw [or_ne hne]
            exact (hold e' he').setRow_other _ (fun h => hee (injg e' he' e he h))
    · refine hstep x _ wr rfl hx i hi hisp hdn (fun e he hie => by have := hold e he; rwa [hlate _ hie, cond_false] at this) K fun w' hnx => ?_
      rw [fillA_upd t0 x _ df dl _ hil hnd]
      refine hK _ _ ⟨_, rfl, hx.nx hnx, hcl2, ?_, ?_, ?_, ?_⟩
      · intro j hj hjs hLj
        by_cases hji : j = i
        · subst hji; exact upd_eq _ _ _
        · rw [upd_ne _ _ hji]
          exact hnr j hj hjs (hpin hLj hji)
      · intro e he hLe
        have hna : e.a ≠ i := fun h => hisp (by rw [← h]; exact spec_a he)
        have hns : e.s ≠ i := fun h => hisp (by rw [← h]; exact spec_s he)
        obtain ⟨g, q1, q2, q3⟩ := hnew e he (hpin hLe hna)
        refine ⟨g, by rw [upd_ne _ _ hna]; exact q1, q2, ?_⟩
        dsimp only
        rw [or_ne hns]
        exact q3.nx hnx
      · intro e1 he1 e2 he2 hne hL1 hL2
        have h1 : e1.a ≠ i := fun h => hisp (by rw [← h]; exact spec_a he1)
        have h2 : e2.a ≠ i := fun h => hisp (by rw [← h]; exact spec_a he2)
        rw [upd_ne _ _ h1, upd_ne _ _ h2]
        exact hdis e1 he1 e2 he2 hne (hpin hL1 h1) (hpin hL2 h2)
      · intro e he
        have hns : e.s ≠ i := fun h => hisp (by rw [← h]; exact spec_o he)
        dsimp only
        rw [or_ne hns]
        exact (hold e he).nx hnx
  · rintro L a wr ⟨x, rfl, hx, hcl, hnr, hnew, hdis, hold⟩ hall
    refine hend x _ wr rfl hx (fun i hi hs => hnr i hi hs (hall i hi)) (fun e he => ?_) (fun e he e' he' hne => hdis e he e' he' hne (hall _ (hspn _ (spec_a he))) (hall _ (hspn _ (spec_a he')))) (fun e he => ?_)
    · obtain ⟨g, q1, q2, q3⟩ := hnew e he (hall _ (hspn _ (spec_a he)))
      rw [hall _ (hspn _ (spec_s he)), cond_true] at q3
      exact ⟨g, q1, q2, q3⟩
    · have := hold e he
      rwa [hall _ (hspn _ (spec_o he)), cond_true] at this
theorem wp_region_bk {id : Nat} {t0 : Array Value} {df : List Deferred} {w : World} (n : Nat) (needs : List (List Nat)) (dl : List (Option Tmp)) (V : List Value) (nb : List NB) (ob : List OB) (sp : List Nat) (asl : List (Nat × Nat)) (hspe : spec nb ob = sp) (hasl : nb.map (fun e => (e.a, e.s)) = asl)
    (hm : P.follows .mixedOrders = true) (hn : needsOf .any ops = needs) (hord : ∀ i, ∀ d ∈ needs.getD i [], d < i)
    (hsz : ops.size = n) (hdl : dl.length = n) (hnd : (dl.filterMap _root_.id).Nodup)
    (hsp : sp.Nodup) (has : ∀ q ∈ asl, q.1 ∈ needs.getD q.2 [])
    (hspn : ∀ i ∈ sp, i < n) (hob : ∀ e ∈ ob, Row w e.g e.z e.T) (hog : (ob.map (·.g)).Nodup)
    (hstep : ∀ x tm wr, fillA t0 dl 0 x = tm → Kp (ob.map (·.g)) w wr → ∀ i, i < n → i ∉ sp → (∀ d ∈ needs.getD i [], d ∉ sp → x d = V.getD d undef) → (∀ e ∈ ob, i ∈ needs.getD e.s [] → Row wr e.g e.z e.T) →
      ∀ K : Act → World → Prop, (∀ w', Nx wr w' → K ((⟨tm, df⟩ : Act).put (dl.getD i none) (V.getD i undef)) w') → wpOp P ops Q i K ⟨tm, df⟩ wr)
    (halloc : ∀ e ∈ nb, ∀ tm wr, ∀ K : Act → World → Prop, K ((⟨tm, df⟩ : Act).put (dl.getD e.a none) (.pointer (some ⟨wr.heap.size, 0, none⟩))) (wr.alloc (.cells e.z e.T)) → wpOp P ops Q e.a K ⟨tm, df⟩ wr)
    (hstore : ∀ e ∈ nb, ∀ x tm wr g, fillA t0 dl 0 x = tm → (∀ d ∈ needs.getD e.s [], d ∉ sp → x d = V.getD d undef) → x e.a = .pointer (some ⟨g, 0, none⟩) → Row wr g e.z e.T →
      ∀ K : Act → World → Prop, K ((⟨tm, df⟩ : Act).put (dl.getD e.s none) undef) (wr.setRow g e.n) → wpOp P ops Q e.s K ⟨tm, df⟩ wr)
    (hstoreo : ∀ e ∈ ob, ∀ x tm wr, fillA t0 dl 0 x = tm → (∀ d ∈ needs.getD e.s [], d ∉ sp → x d = V.getD d undef) → Row wr e.g e.z e.T →
      ∀ K : Act → World → Prop, K ((⟨tm, df⟩ : Act).put (dl.getD e.s none) undef) (wr.setRow e.g e.n) → wpOp P ops Q e.s K ⟨tm, df⟩ wr)
    (hend : ∀ x tm wr, fillA t0 dl 0 x = tm → Kp (ob.map (·.g)) w wr → (∀ i, i < n → i ∉ sp → x i = V.getD i undef) → (∀ e ∈ nb, ∃ g, x e.a = .pointer (some ⟨g, 0, none⟩) ∧ w.heap.size ≤ g ∧ Row wr g e.n e.T) →
      (∀ e ∈ nb, ∀ e' ∈ nb, e.a ≠ e'.a → x e.a ≠ x e'.a) → (∀ e ∈ ob, Row wr e.g e.n e.T) → Q .normal ⟨tm, df⟩ wr) :
    (Code.region id ops true).wp P Q ⟨t0, df⟩ w := by
  subst hspe hasl
  exact wp_region_blk n needs dl V nb ob hm hn hord hsz hdl hnd hsp has hspn hob hog hstep halloc hstore hstoreo hend
end
end Go.Proofs.YtpijehaciomkhaaDoor
end

section
namespace Go.Proofs.YtpijehaciomkhaaDoor
open Go Go.RowKit
set_option linter.unusedVariables false
set_option linter.unusedSimpArgs false
set_option linter.unusedVariables false
set_option linter.unusedSimpArgs false
section
variable {P : Program} {ops : Array Oper} {Q : Exit → Act → World → Prop}
theorem wp_region_J {id : Nat} {t0 : Array Value} {df : List Deferred} {w : World} (n : Nat) (needs : List (List Nat)) (dl : List (Option Tmp)) (J : (Nat → Bool) → (Nat → Value) → World → Prop)
    (hm : P.follows .mixedOrders = true) (hn : needsOf .any ops = needs) (hord : ∀ i, ∀ d ∈ needs.getD i [], d < i)
    (hsz : ops.size = n) (hdl : dl.length = n) (hnd : (dl.filterMap _root_.id).Nodup)
    (h0 : ∀ x, (∀ i d, dl[i]? = some (some d) → x i = t0.getD d undef) → J (fun _ => false) x w.drew)
    (hstep : ∀ L x tm wr, fillA t0 dl 0 x = tm → J L x wr → (∀ j, L j = true → ∀ d ∈ needs.getD j [], L d = true) → ∀ i, i < n → L i = false → (∀ d ∈ needs.getD i [], L d = true) → (∀ s, i ∈ needs.getD s [] → L s = false) →
      ∀ K : Act → World → Prop, (∀ v w', J (fun j => j == i || L j) (upd x i v) w' → K ((⟨tm, df⟩ : Act).put (dl.getD i none) v) w') → wpOp P ops Q i K ⟨tm, df⟩ wr)
    (hend : ∀ L x tm wr, fillA t0 dl 0 x = tm → J L x wr → (∀ i, i < n → L i = true) → Q .normal ⟨tm, df⟩ wr) :
    (Code.region id ops true).wp P Q ⟨t0, df⟩ w := by
  subst hsz
  refine wp_region_inv needs (fun L a w' => ∃ x : Nat → Value, a = ⟨fillA t0 dl 0 x, df⟩ ∧ J L x w' ∧ (∀ j, L j = true → ∀ d ∈ needs.getD j [], L d = true)) hm hn hord ?_ ?_ ?_
  · refine ⟨fun i => match dl[i]? with | some (some d) => t0.getD d undef | _ => undef, ?_, h0 _ (fun i d hd => by simp only [hd]), (fun _ h => by cases h)⟩
    rw [fillA_self]
    intro i d hd
    rw [Nat.zero_add]
    simp only [hd]
  · rintro L a wr ⟨x, rfl, hJ, hcl⟩ i hi hL hd K hK
    have hcl2 : ∀ j, (j == i || L j) = true → ∀ d ∈ needs.getD j [], (d == i || L d) = true := fun j hj d hdd => by
      by_cases hji : j = i
      · subst hji; rw [hd d hdd, Bool.or_true]
      · rw [hcl j (by rwa [or_ne hji] at hj) d hdd, Bool.or_true]
    refine hstep L x _ wr rfl hJ hcl i hi hL hd (fun s hs => by
      rcases h : L s with _ | _
      · rfl
      · rw [hcl s h i hs] at hL; cases hL) K fun v w' hJ' => ?_
    rw [fillA_upd t0 x _ df dl _ (by omega) hnd]
    exact hK _ _ ⟨_, rfl, hJ', hcl2⟩
  · rintro L a wr ⟨x, rfl, hJ, hcl⟩ hall
    exact hend L x _ wr rfl hJ hall
end
end Go.Proofs.YtpijehaciomkhaaDoor
end
