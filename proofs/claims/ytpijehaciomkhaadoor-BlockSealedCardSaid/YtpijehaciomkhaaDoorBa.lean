/- TEXTS OF OUR OWN, IN ONE FILE: heads and lists of hashes, what block needs of them. -/
import Derived.Test.YtpijehaciomkhaaDoorTa
import Derived.Test.YtpijehaciomkhaaDoorTb
import Derived.Test.YtpijehaciomkhaaDoorTc
import Derived.Test.YtpijehaciomkhaaDoorTk
import Derived.Test.YtpijehaciomkhaaDoorTl
import Derived.Test.YtpijehaciomkhaaDoorTi
import Derived.Lib.BitFns
import Derived.Deep.Upon
section
namespace Go.Proofs.YtpijehaciomkhaaDoor
open Go.RowKit
set_option linter.unusedVariables false
set_option linter.unusedSimpArgs false

/-- How many bits n has. -/
def blen (n : Nat) : Nat := if n = 0 then 0 else n.log2 + 1
theorem blen_spec (n : Nat) : n < 2 ^ blen n := by
  unfold blen; split
  · subst_vars; decide
  · exact Nat.lt_log2_self
theorem blen_low (n : Nat) (h : n ≠ 0) : 2 ^ (blen n - 1) ≤ n := by
  unfold blen; rw [if_neg h]; exact Nat.log2_self_le h
end Go.Proofs.YtpijehaciomkhaaDoor
end

section
namespace Go.Proofs.YtpijehaciomkhaaDoor
open Go.RowKit
set_option linter.unusedVariables false
set_option linter.unusedSimpArgs false

/-- What holds with n steps to go: c is left, t is how often b went in. -/
def Going (a b n c t : Nat) : Prop := c < b * 2 ^ n ∧ t * b + c = a ∧ t % 2 ^ n = 0 ∧ t < top ∧ c ≤ a ∧ (n = 0 ∨ n + blen b ≤ blen a + 1)
theorem Going.none (a b : Nat) (hb : b ≠ 0) (h : blen a < blen b) : a < b := by
  have h1 := blen_spec a
  have h2 := blen_low b hb
  have : 2 ^ blen a ≤ 2 ^ (blen b - 1) := Nat.pow_le_pow_right (by decide) (by omega)
  omega
theorem Going.more {a b n c t : Nat} (h : Going a b (n + 1) c t) (hb : b ≠ 0) (ha : a < top) (hl : b * 2 ^ n ≤ c) : Going a b n (c - b * 2 ^ n) (t + 2 ^ n) := by
  obtain ⟨h1, h2, h3, h4, h5, h6⟩ := h
  have e : (t + 2 ^ n) * b + (c - b * 2 ^ n) = a := by
    rw [Nat.add_mul, Nat.mul_comm (2 ^ n) b]; omega
  refine ⟨?_, e, ?_, ?_, by omega, by omega⟩
  · rw [Nat.pow_succ, ← Nat.mul_assoc] at h1
    omega
  · rw [Nat.pow_succ] at h3
    have := Nat.mod_mul_right_mod t (2 ^ n) 2
    rw [h3, Nat.zero_mod] at this
    rw [Nat.add_mod_right]; exact this.symm
  · have : (t + 2 ^ n) * 1 ≤ (t + 2 ^ n) * b := Nat.mul_le_mul_left _ (by omega)
    omega
theorem Going.done {a b c t : Nat} (h : Going a b 0 c t) : t = a / b ∧ c = a % b := by
  obtain ⟨h1, h2, _⟩ := h
  rw [Nat.pow_zero, Nat.mul_one] at h1
  have h3 : b ≠ 0 := by omega
  rw [← h2]
  constructor
  · rw [Nat.add_comm, Nat.add_mul_div_right _ _ (by omega), Nat.div_eq_of_lt h1, Nat.zero_add]
  · rw [Nat.add_comm, Nat.add_mul_mod_self_right, Nat.mod_eq_of_lt h1]
end Go.Proofs.YtpijehaciomkhaaDoor
end

section
namespace Go.Proofs.YtpijehaciomkhaaDoor
open Go.RowKit
set_option linter.unusedVariables false
set_option linter.unusedSimpArgs false

theorem Row.there {w : World} {g : Nat} {cs : Array Value} {t : TypeId} (h : Row w g cs t) (n : Nat) (hn : n ≤ cs.size) : w.there g 0 n := fun j hj => by
  rw [Nat.zero_add]
  refine ⟨?_, h.frozen j⟩
  rw [h.cell (v := cs[j]'(by omega)) (by simp [show j < cs.size by omega])]
  rfl
end Go.Proofs.YtpijehaciomkhaaDoor
end

section
namespace Go.Proofs.YtpijehaciomkhaaDoor
open Go Go.RowKit
set_option linter.unusedVariables false
set_option linter.unusedSimpArgs false
set_option linter.unusedVariables false
set_option linter.unusedSimpArgs false

theorem results_cell_three {P : Program} {fn : Func} {p u v : Tmp} {ty : TypeId} (h : fn.results = #[.cell p ty, .tmp u, .tmp v]) (tmps : Array Value) (w : World) (g : Nat) (t : TypeId) (cs : Array Value) (fr : Nat × Nat) (d : TypeDesc)
    (hp : tmps.getD p undef = .pointer (some ⟨g, 0, none⟩)) (hg : w.heap[g]? = some (.cells cs t fr))
    (hu : P.underlying ty = some d) (hd : (match d with | .struct _ | .array _ _ => true | _ => false) = true) (hi : (P.info? ty).map (·.size) = some cs.size) :
    (results fn tmps).run P w = .ok (.tuple #[.agg cs, tmps.getD u undef, tmps.getD v undef]) w := by
  have hp' : tmps[p]?.getD undef = .pointer (some ⟨g, 0, none⟩) := by simpa using hp
  simp [results, h, hp', asAddr, run_loadVar_row w g t ty cs fr d hg hu hd hi, Sem.run_bind, Result.andThen]
theorem results_cell_two {P : Program} {fn : Func} {p u : Tmp} {ty : TypeId} (h : fn.results = #[.cell p ty, .tmp u]) (tmps : Array Value) (w : World) (g : Nat) (t : TypeId) (cs : Array Value) (fr : Nat × Nat) (d : TypeDesc)
    (hp : tmps.getD p undef = .pointer (some ⟨g, 0, none⟩)) (hg : w.heap[g]? = some (.cells cs t fr))
    (hu : P.underlying ty = some d) (hd : (match d with | .struct _ | .array _ _ => true | _ => false) = true) (hi : (P.info? ty).map (·.size) = some cs.size) :
    (results fn tmps).run P w = .ok (.tuple #[.agg cs, tmps.getD u undef]) w := by
  have hp' : tmps[p]?.getD undef = .pointer (some ⟨g, 0, none⟩) := by simpa using hp
  simp [results, h, hp', asAddr, run_loadVar_row w g t ty cs fr d hg hu hd hi, Sem.run_bind, Result.andThen]
end Go.Proofs.YtpijehaciomkhaaDoor
end

section
namespace Go.Proofs.YtpijehaciomkhaaDoor
open Go Go.RowKit
set_option linter.unusedVariables false
set_option linter.unusedSimpArgs false
set_option linter.unusedVariables false
set_option linter.unusedSimpArgs false

/-- The cells of a head. -/
def hdl (p r : List UInt8) (t b n : Nat) : List Value := bvs p ++ (bvs r ++ [.int .u32 (t : Int), .int .u32 (b : Int), .int .u32 (n : Int)])
def hdc (p r : List UInt8) (t b n : Nat) : Array Value := (hdl p r t b n).toArray
def Z32h : List UInt8 := List.replicate 32 0
theorem Z32_lengthh : Z32h.length = 32 := List.length_replicate
section
variable (p r : List UInt8) (t b n : Nat)
theorem hd_size (hp : p.length = 32) (hr : r.length = 32) : (hdc p r t b n).size = 67 := by simp [hdc, hdl, bvs, hp, hr]
theorem hd_p (j : Nat) (hj : j < p.length) : (hdc p r t b n)[j]? = some (bv p[j]) := by
  simp [hdc, hdl, bvs, hj, List.getElem?_append_left]
theorem hd_r (hp : p.length = 32) (j : Nat) (hj : j < r.length) : (hdc p r t b n)[32 + j]? = some (bv r[j]) := by
  simp [hdc, hdl, bvs, hp, hj, List.getElem?_append_left, List.getElem?_append_right]
theorem hd_t (hp : p.length = 32) (hr : r.length = 32) : (hdc p r t b n)[64]? = some (.int .u32 (t : Int)) := by
  simp [hdc, hdl, bvs, hp, hr, List.getElem?_append_right]
theorem hd_b (hp : p.length = 32) (hr : r.length = 32) : (hdc p r t b n)[65]? = some (.int .u32 (b : Int)) := by
  simp [hdc, hdl, bvs, hp, hr, List.getElem?_append_right]
theorem hd_n (hp : p.length = 32) (hr : r.length = 32) : (hdc p r t b n)[66]? = some (.int .u32 (n : Int)) := by
  simp [hdc, hdl, bvs, hp, hr, List.getElem?_append_right]
theorem hd_one : (hdc p r t b n).all (·.oneCell') = true := by
  rw [Array.all_eq_true']
  intro x hx
  simp only [hdc, hdl, List.mem_toArray, List.mem_append, List.mem_cons, List.not_mem_nil, or_false] at hx
  rcases hx with h | h | rfl | rfl | rfl
  · exact bvs_one p x h
  · exact bvs_one r x h
  · rfl
  · rfl
  · rfl
end
theorem info_head : (Tryd.prog.info? 26).map (fun i => (i.zero, i.size)) = some (some (.agg (hdc Z32h Z32h 0 0 0)), 67) := by kernel_rfl
theorem headsz (p r : List UInt8) (t b n : Nat) (hp : p.length = 32) (hr : r.length = 32) : (Tryd.prog.info? 26).map (·.size) = some (hdc p r t b n).size := by
  rw [hd_size p r t b n hp hr]; kernel_rfl
theorem headsame (p r q s : List UInt8) (t b n t' b' n' : Nat) (hp : p.length = 32) (hr : r.length = 32) (hq : q.length = 32) (hs : s.length = 32) : (hdc p r t b n).size = (hdc q s t' b' n').size := by rw [hd_size _ _ _ _ _ hp hr, hd_size _ _ _ _ _ hq hs]
theorem hd_rdp {w : World} {g : Nat} {p r : List UInt8} {t b n : Nat} {T : TypeId} (h : Row w g (hdc p r t b n) T) (hp : p.length = 32) : Rd w (.slice (some ⟨g, 0, none⟩) 32 32) p :=
  ⟨some ⟨g, 0, none⟩, 32, by rw [hp], by omega, by simp only [maxLen]; omega, At.of_cells h.lt fun j hj => by rw [Nat.zero_add]; exact h.cell (hd_p p r t b n j hj)⟩
theorem hd_rdr {w : World} {g : Nat} {p r : List UInt8} {t b n : Nat} {T : TypeId} (h : Row w g (hdc p r t b n) T) (hp : p.length = 32) (hr : r.length = 32) : Rd w (.slice (some ⟨g, 32, none⟩) 32 32) r :=
  ⟨some ⟨g, 32, none⟩, 32, by rw [hr], by omega, by simp only [maxLen]; omega, At.of_cells h.lt fun j hj => h.cell (hd_r p r t b n hp j hj)⟩
/-- A cut of an array that stands within a block. -/
theorem slice_arr_at {P : Program} (t e : TypeId) (n : Nat) (ht : P.underlying t = some (.array n e)) (hsz : ∀ w, (sizeOf e).run P w = .ok 1 w) (g k : Nat) (h3 : 0 < n) (w : World) :
    (Instr.sliceAt t (.pointer (some ⟨g, k, none⟩)) none none none).run P w = .ok (.slice (some ⟨g, k, none⟩) n n) w := by
  have e1 : ¬ (n = 0) := by omega
  simp [Instr.sliceAt, Instr.sureAddr, run_underlying ht, Instr.sliceBounds, run_sliceBound, hsz, e1, addr_add]
theorem hc_asInts (h : List UInt8) : (bvs h).toArray = ints .u8 (h.map fun x => (x.toNat : Int)) := by
  simp [ints, bvs, Function.comp_def]
set_option maxRecDepth 100000 in
set_option maxHeartbeats 4000000 in
theorem eq_head (p r q s : List UInt8) (t b n t' b' n' : Nat) (hp : p.length = 32) (hr : r.length = 32) (hq : q.length = 32) (hs : s.length = 32) (w : World) :
    (Op.equalIn 10000 26 (.agg (hdc p r t b n)) (.agg (hdc q s t' b' n'))).run Tryd.prog w = .ok (decide (p = q) && (decide (r = s) && (decide (t = t') && (decide (b = b') && decide (n = n'))))) w := by
  have hn : ∀ a b : Nat, ((a : Int) == (b : Int)) = decide (a = b) := fun a b => by rw [Bool.eq_iff_iff, beq_iff_eq, decide_eq_true_iff]; omega
  have hag : ∀ w, (isAgg 23).run Tryd.prog w = .ok true w := fun w => by kernel_rfl
  have hsz : ∀ w, (sizeOf 23).run Tryd.prog w = .ok 32 w := fun w => by kernel_rfl
  have ha32 : ∀ w, (isAgg 24).run Tryd.prog w = .ok false w := fun w => by kernel_rfl
  have ex : ∀ (p r : List UInt8) (t b n : Nat), p.length = 32 → (hdc p r t b n).extract 0 32 = (bvs p).toArray := fun p r t b n hp => by
    simp [hdc, hdl, List.extract_toArray, List.take_append, bvs_length, hp, List.take_of_length_le (Nat.le_of_eq (show (bvs p).length = 32 by rw [bvs_length, hp]))]
  have ex2 : ∀ (p r : List UInt8) (t b n : Nat), p.length = 32 → r.length = 32 → (hdc p r t b n).extract 32 64 = (bvs r).toArray := fun p r t b n hp hr => by
    have e1 : (bvs p).length = 32 := by rw [bvs_length, hp]
    have e2 : (bvs r).length = 32 := by rw [bvs_length, hr]
    simp only [hdc, hdl, List.extract_toArray, List.extract_eq_take_drop]
    rw [List.drop_left' e1, List.take_left' e2]
  have p1 : ∀ (p r : List UInt8) (t b n : Nat) (w : World), p.length = 32 → r.length = 32 → (part 23 (hdc p r t b n) 0).run Tryd.prog w = .ok (.agg (bvs p).toArray) w := fun p r t b n w hp hr => by
    simp [part, hag, hsz, Sem.run_bind, ex p r t b n hp, hd_size p r t b n hp hr]
  have p2 : ∀ (p r : List UInt8) (t b n : Nat) (w : World), p.length = 32 → r.length = 32 → (part 23 (hdc p r t b n) 32).run Tryd.prog w = .ok (.agg (bvs r).toArray) w := fun p r t b n w hp hr => by
    simp [part, hag, hsz, Sem.run_bind, ex2 p r t b n hp hr, hd_size p r t b n hp hr]
  have p3 : ∀ (p r : List UInt8) (t b n : Nat) (w : World), p.length = 32 → r.length = 32 → (part 24 (hdc p r t b n) 64).run Tryd.prog w = .ok (.int .u32 t) w := fun p r t b n w hp hr => by
    simp [part, ha32, Sem.run_bind, hd_t p r t b n hp hr]
  have p4 : ∀ (p r : List UInt8) (t b n : Nat) (w : World), p.length = 32 → r.length = 32 → (part 24 (hdc p r t b n) 65).run Tryd.prog w = .ok (.int .u32 b) w := fun p r t b n w hp hr => by
    simp [part, ha32, Sem.run_bind, hd_b p r t b n hp hr]
  have p5 : ∀ (p r : List UInt8) (t b n : Nat) (w : World), p.length = 32 → r.length = 32 → (part 24 (hdc p r t b n) 66).run Tryd.prog w = .ok (.int .u32 n) w := fun p r t b n w hp hr => by
    simp [part, ha32, Sem.run_bind, hd_n p r t b n hp hr]
  have e1 : ∀ (x y : List UInt8) (w : World), x.length = 32 → y.length = 32 → (Op.equalIn 9999 23 (.agg (bvs x).toArray) (.agg (bvs y).toArray)).run Tryd.prog w = .ok (decide (x = y)) w := fun x y w hx hy => by
    have := eq_ints (P := Tryd.prog) 9997 23 5 32 .u8 Tryd.underlying23 Tryd.underlying5 Tryd.isAgg5 Tryd.sizeOf5 (x.map fun x => (x.toNat : Int)) (y.map fun x => (x.toNat : Int)) (by simp [hx]) (by simp [hy]) w
    rw [← hc_asInts, ← hc_asInts] at this
    rw [this]
    congr 1
    rw [Bool.eq_iff_iff]
    simp only [decide_eq_true_eq]
    constructor
    · intro h
      have h2 : (x.map fun x => (x.toNat : Int)).map (fun z : Int => UInt8.ofNat z.toNat) = (y.map fun x => (x.toNat : Int)).map (fun z : Int => UInt8.ofNat z.toNat) := by rw [h]
      simpa [List.map_map, Function.comp_def] using h2
    · rintro rfl; rfl
  rw [run_equalIn_struct w 9999 26 _ _ (by kernel_rfl) (by kernel_rfl)]
  simp only [Program.fieldsOf, Tryd.underlying26, Op.eqFields]
  have e3 : ∀ (x y : Nat) (w : World), (Op.equalIn 9999 24 (.int .u32 x) (.int .u32 y)).run Tryd.prog w = .ok (decide (x = y)) w := fun x y w => by
    rw [run_equalIn_int w 9998 24 .u32 .u32 _ _ Tryd.underlying24, hn]
  simp only [Sem.run_ite, Sem.run_bind, p1 p r t b n _ hp hr, p1 q s t' b' n' _ hq hs, p2 p r t b n _ hp hr, p2 q s t' b' n' _ hq hs, p3 p r t b n _ hp hr, p3 q s t' b' n' _ hq hs, p4 p r t b n _ hp hr, p4 q s t' b' n' _ hq hs, p5 p r t b n _ hp hr, p5 q s t' b' n' _ hq hs, e1 p q _ hp hq, e1 r s _ hr hs, e3, Result.andThen_ok, Sem.run_pure, ne_eq, String.reduceEq, not_false_eq_true, if_true]
  rcases decide (p = q) with _ | _ <;> rcases decide (r = s) with _ | _ <;> rcases decide (t = t') with _ | _ <;> rcases decide (b = b') with _ | _ <;> rcases decide (n = n') with _ | _ <;> rfl
end Go.Proofs.YtpijehaciomkhaaDoor
end

section
namespace Go.Proofs.YtpijehaciomkhaaDoor
open Go Go.RowKit
set_option linter.unusedVariables false
set_option linter.unusedSimpArgs false
set_option linter.unusedVariables false
set_option linter.unusedSimpArgs false

theorem putL_four (n : Nat) (h : n < 4294967296) : putL n 4 = low n 4 := by
  rcases part_of_put n 4 with ⟨h1, -, -⟩ | ⟨k, hk, h1, -, ⟨-, -, h3⟩ | ⟨h2, -, -⟩⟩
  · exact absurd h1 (by decide)
  · obtain rfl : k = 4 := by omega
    exact h3
  · obtain rfl : k = 4 := by omega
    exact absurd h (by have : (256 : Nat) ^ 4 = 4294967296 := by decide
                       omega)
theorem wp_load_cellh {P : Program} {o : Oper} {a : Act} {w : World} {K : Act → World → Prop} {Q : Exit → Act → World → Prop} (dst : Option Tmp) (hdst : o.dst = dst) (ty : TypeId) (x : Operand) (ho : o.op = .load ty x)
    (g k : Nat) (hx : a.eval x = .pointer (some ⟨g, k, none⟩)) (v : Value) (d : TypeDesc) (hc : w.cell? ⟨g, k, none⟩ = some v)
    (hu : P.underlying ty = some d) (hd : (match d with | .struct _ | .array _ _ => true | _ => false) = false)
    (h : K (a.put dst v) w) : o.wp P a w K Q := by
  subst hdst
  have hagg : (isAgg ty).run P w = .ok false w := by
    unfold isAgg
    rw [Sem.run_bind, run_underlying hu w]
    cases d <;> simp_all
  have hl : (loadVar ty ⟨g, k, none⟩).run P w = .ok v w := by
    simp [loadVar, Sem.run_bind, hagg, hc]
  unfold Oper.wp execOp
  simp only [ho, hx, Instr.loadAt, Instr.sureAddr, Sem.run_bind, Sem.run_pure, Result.andThen_ok, hl]
  exact h
/-- A head's bytes. -/
def hdB (p r : List UInt8) (t b n : Nat) : List UInt8 := p ++ (r ++ (low t 4 ++ (low b 4 ++ low n 4)))
theorem hnum_any (n : Nat) (h : n < 4294967296) (w : World) : Calls Tryd.prog 28 #[.int .u32 (n : Int)] w fun e w' => ∃ v', e = .returned v' ∧ Own w.heap.size w' v' (low n 4) ∧ Nx w w' := by
  have H := Lib.hid (put_any n 4 w)
  rw [putL_four n h] at H
  have hw : IntKind.u64.wrap (n : Int) = (n : Int) := by rw [IntKind.wrap_u64, Int.emod_eq_of_lt (by omega) (by omega)]
  generalize low n 4 = l at *
  generalize putE n 4 = E at *
  clear h
  go_enter Tryd.func28, Tryd.ntmps28
  go_wp2_with fail
  refine H.out.mono ?_
  rintro e w1 ⟨v, rfl, o1, n1⟩
  have O1 := Lib.hid o1
  have N1 := Lib.hid n1
  clear o1 n1
  go_wp2_with fail
  go_ret
  exact ⟨_, rfl, O1.out, N1.out⟩
theorem run_mk5 {v1 v2 v3 v4 v5 : Value} (h1 : Sl v1) (h2 : Sl v2) (h3 : Sl v3) (h4 : Sl v4) (h5 : Sl v5) (w : World) :
    (Instr.buildSlice 57 5 #[(0, v1), (1, v2), (2, v3), (3, v4), (4, v5)]).run Tryd.prog w = .ok (.slice (some ⟨w.heap.size, 0, none⟩) 5 5) (w.alloc (.cells #[v1, v2, v3, v4, v5] 43)) := by
  obtain ⟨A, n, c, rfl⟩ := h1
  obtain ⟨A', n', c', rfl⟩ := h2
  obtain ⟨A'', n'', c'', rfl⟩ := h3
  obtain ⟨A3, n3, c3, rfl⟩ := h4
  obtain ⟨A4, n4, c4, rfl⟩ := h5
  kernel_rfl
theorem catAt5 {v1 v2 v3 v4 v5 : Value} {l1 l2 l3 l4 l5 : List UInt8} {w : World} (h1 : Rd w v1 l1) (h2 : Rd w v2 l2) (h3 : Rd w v3 l3) (h4 : Rd w v4 l4) (h5 : Rd w v5 l5) : CatAt (.slice (some ⟨w.heap.size, 0, none⟩) 5 5) [l1, l2, l3, l4, l5] (w.alloc (.cells #[v1, v2, v3, v4, v5] 43)) :=
  ⟨w.heap.size, [v1, v2, v3, v4, v5], rfl, heap_alloc_new w _, (Vs.cons (h1.alloc _) (Vs.cons (h2.alloc _) (Vs.cons (h3.alloc _) (Vs.cons (h4.alloc _) (Vs.cons (h5.alloc _) (Vs.nil _))))))⟩
set_option maxRecDepth 100000 in
set_option maxHeartbeats 4000000 in
theorem hput_any (p r : List UInt8) (t b n : Nat) (hp : p.length = 32) (hr : r.length = 32) (ht : t < 4294967296) (hb : b < 4294967296) (hn : n < 4294967296) (w : World) :
    Calls Tryd.prog 16 #[.agg (hdc p r t b n)] w fun e w' => ∃ v, e = .returned v ∧ Own w.heap.size w' v (hdB p r t b n) ∧ Nx w w' := by
  have HN1 := Lib.hid (fun w => hnum_any t ht w)
  have HN2 := Lib.hid (fun w => hnum_any b hb w)
  have HN3 := Lib.hid (fun w => hnum_any n hn w)
  have HL1 := Lib.hid (low_length t 4)
  have HL2 := Lib.hid (low_length b 4)
  have HL3 := Lib.hid (low_length n 4)
  unfold hdB
  generalize low t 4 = B1 at *
  generalize low b 4 = B2 at *
  generalize low n 4 = B3 at *
  have HT := Lib.hid hp
  have HU := Lib.hid hr
  have HCT := Lib.hid (hd_t p r t b n hp hr)
  have HCB := Lib.hid (hd_b p r t b n hp hr)
  have HCN := Lib.hid (hd_n p r t b n hp hr)
  have HSL := Lib.hid (fun w' => slice_arr_at (P := Tryd.prog) 23 5 32 Tryd.underlying23 Tryd.sizeOf5 w.heap.size 0 (by omega) w')
  have HSM := Lib.hid (fun w' => slice_arr_at (P := Tryd.prog) 23 5 32 Tryd.underlying23 Tryd.sizeOf5 w.heap.size 32 (by omega) w')
  have HCC : Hid (∀ (wr : World) (x : Value), CatAt x [p, r, B1, B2, B3] wr → w.heap.size ≤ wr.heap.size → Calls Tryd.prog 15 #[x] wr fun e w' => ∃ v, e = .returned v ∧ Own w.heap.size w' v (p ++ (r ++ (B1 ++ (B2 ++ B3)))) ∧ Nx wr w') := Lib.hid fun wr x h hB => by
    have := concat_at wr h (by simp) (by have := HL1.out; have := HL2.out; have := HL3.out; have := HT.out; have := HU.out; simp only [List.flatten_cons, List.flatten_nil, List.append_nil, List.length_append]; omega) _ hB
    simpa only [List.flatten_cons, List.flatten_nil, List.append_nil] using this
  have RP0 := Row.new w (hdc p r t b n) 26 _ rfl
  have NW := Lib.hid ((Nx.refl w).alloc (.cells (hdc p r t b n) 26))
  generalize p ++ (r ++ (B1 ++ (B2 ++ B3))) = L at *
  clear hp hr ht hb hn
  go_enter Tryd.func16, Tryd.ntmps16
  go_wp2_with fail
  have RT := Lib.hid (hd_rdp RP0 HT.out)
  have RU := Lib.hid (hd_rdr RP0 HT.out HU.out)
  have HWS := NW.out.size
  generalize w.alloc (.cells (hdc p r t b n) 26) = W at *
  refine wp_region_nx 16 [[], [0], [], [2], [], [4], [5], [], [7], [8, 6], [], [10], [11, 9], [1, 3, 6, 9, 12], [13, 12], [14, 14, 0, 1, 2, 3, 4, 5, 6, 7, 8, 9, 10, 11, 12, 13, 14]] [some 3, some 4, some 5, some 6, some 7, some 8, some 9, some 10, some 11, some 12, some 13, some 14, some 15, some 16, some 17, some 2]
    [.eq (.pointer (some ⟨w.heap.size, 0, none⟩)), .eq (.slice (some ⟨w.heap.size, 0, none⟩) 32 32), .eq (.pointer (some ⟨w.heap.size, 32, none⟩)), .eq (.slice (some ⟨w.heap.size, 32, none⟩) 32 32), .eq (.pointer (some ⟨w.heap.size, 64, none⟩)), .eq (.int .u32 (t : Int)), .rd (B1), .eq (.pointer (some ⟨w.heap.size, 65, none⟩)), .eq (.int .u32 (b : Int)), .rd (B2), .eq (.pointer (some ⟨w.heap.size, 66, none⟩)), .eq (.int .u32 (n : Int)), .rd (B3), ⟨fun v w => CatAt v [p, r, B1, B2, B3] w, fun _ _ _ h k => h.nx k⟩, .own w.heap.size L, .own w.heap.size L]
    (by kernel_rfl) (by kernel_rfl) (hord_of (by decide)) (by kernel_rfl) (by decide) (by decide) (htail_of (by decide)) ?_ _ (by rfl) ?_
  · intro x tm wr htm hx i hi hd K hK
    simp only [fillA, List.setIfInBounds_toArray, List.set_cons_zero, List.set_cons_succ] at htm
    subst htm
    have hcs : i = 0 ∨ i = 1 ∨ i = 2 ∨ i = 3 ∨ i = 4 ∨ i = 5 ∨ i = 6 ∨ i = 7 ∨ i = 8 ∨ i = 9 ∨ i = 10 ∨ i = 11 ∨ i = 12 ∨ i = 13 ∨ i = 14 ∨ i = 15 := by omega
    clear hi
    rcases hcs with rfl | rfl | rfl | rfl | rfl | rfl | rfl | rfl | rfl | rfl | rfl | rfl | rfl | rfl | rfl | rfl
    · exact wpOp_of rfl rfl (wp_val_of (some 3) rfl (.pointer (some ⟨w.heap.size, 0, none⟩)) (by kernel_rfl) (hK _ _ rfl (Nx.refl _)))
    · have e0 : x 0 = .pointer (some ⟨w.heap.size, 0, none⟩) := hd 0 (by decide)
      generalize x 0 = y0 at e0 hK ⊢
      subst e0
      exact wpOp_of rfl rfl (wp_slice_of (some 4) rfl 23 (.tmp 3) none none none rfl (.slice (some ⟨w.heap.size, 0, none⟩) 32 32) (HSL.out wr) (hK _ _ rfl (Nx.refl _)))
    · exact wpOp_of rfl rfl (wp_val_of (some 5) rfl (.pointer (some ⟨w.heap.size, 32, none⟩)) (by kernel_rfl) (hK _ _ rfl (Nx.refl _)))
    · have e2 : x 2 = .pointer (some ⟨w.heap.size, 32, none⟩) := hd 2 (by decide)
      generalize x 2 = y2 at e2 hK ⊢
      subst e2
      exact wpOp_of rfl rfl (wp_slice_of (some 6) rfl 23 (.tmp 5) none none none rfl (.slice (some ⟨w.heap.size, 32, none⟩) 32 32) (HSM.out wr) (hK _ _ rfl (Nx.refl _)))
    · exact wpOp_of rfl rfl (wp_val_of (some 7) rfl (.pointer (some ⟨w.heap.size, 64, none⟩)) (by kernel_rfl) (hK _ _ rfl (Nx.refl _)))
    · have e4 : x 4 = .pointer (some ⟨w.heap.size, 64, none⟩) := hd 4 (by decide)
      generalize x 4 = y4 at e4 hK ⊢
      subst e4
      exact wpOp_of rfl rfl (wp_load_cellh (some 8) rfl 24 (.tmp 7) rfl (w.heap.size) 64 rfl (.int .u32 (t : Int)) _ ((RP0.nx hx).cell HCT.out) Tryd.underlying24 rfl (hK _ _ rfl (Nx.refl _)))
    · have e5 : x 5 = .int .u32 (t : Int) := hd 5 (by decide)
      generalize x 5 = y5 at e5 hK ⊢
      subst e5
      refine wpOp_of rfl rfl (wp_callp_of (some 9) rfl 28 #[(.int .u32 (t : Int))] (by kernel_rfl) (fun v w' => Rd w' v (B1)) ?_ hK)
      exact (HN1.out wr).mono fun _ _ ⟨v, h1, h2, h3⟩ => ⟨v, h1, h2.rd, h3⟩
    · exact wpOp_of rfl rfl (wp_val_of (some 10) rfl (.pointer (some ⟨w.heap.size, 65, none⟩)) (by kernel_rfl) (hK _ _ rfl (Nx.refl _)))
    · have e7 : x 7 = .pointer (some ⟨w.heap.size, 65, none⟩) := hd 7 (by decide)
      generalize x 7 = y7 at e7 hK ⊢
      subst e7
      exact wpOp_of rfl rfl (wp_load_cellh (some 11) rfl 24 (.tmp 10) rfl (w.heap.size) 65 rfl (.int .u32 (b : Int)) _ ((RP0.nx hx).cell HCB.out) Tryd.underlying24 rfl (hK _ _ rfl (Nx.refl _)))
    · have e8 : x 8 = .int .u32 (b : Int) := hd 8 (by decide)
      have r6 : Rd wr (x 6) (B1) := hd 6 (by decide)
      generalize x 8 = y8 at e8 hK ⊢
      subst e8
      refine wpOp_of rfl rfl (wp_callp_of (some 12) rfl 28 #[(.int .u32 (b : Int))] (by kernel_rfl) (fun v w' => Rd w' v (B2)) ?_ hK)
      exact (HN2.out wr).mono fun _ _ ⟨v, h1, h2, h3⟩ => ⟨v, h1, h2.rd, h3⟩
    · exact wpOp_of rfl rfl (wp_val_of (some 13) rfl (.pointer (some ⟨w.heap.size, 66, none⟩)) (by kernel_rfl) (hK _ _ rfl (Nx.refl _)))
    · have e10 : x 10 = .pointer (some ⟨w.heap.size, 66, none⟩) := hd 10 (by decide)
      generalize x 10 = y10 at e10 hK ⊢
      subst e10
      exact wpOp_of rfl rfl (wp_load_cellh (some 14) rfl 24 (.tmp 13) rfl (w.heap.size) 66 rfl (.int .u32 (n : Int)) _ ((RP0.nx hx).cell HCN.out) Tryd.underlying24 rfl (hK _ _ rfl (Nx.refl _)))
    · have e11 : x 11 = .int .u32 (n : Int) := hd 11 (by decide)
      have r9 : Rd wr (x 9) (B2) := hd 9 (by decide)
      generalize x 11 = y11 at e11 hK ⊢
      subst e11
      refine wpOp_of rfl rfl (wp_callp_of (some 15) rfl 28 #[(.int .u32 (n : Int))] (by kernel_rfl) (fun v w' => Rd w' v (B3)) ?_ hK)
      exact (HN3.out wr).mono fun _ _ ⟨v, h1, h2, h3⟩ => ⟨v, h1, h2.rd, h3⟩
    · have e1 : x 1 = .slice (some ⟨w.heap.size, 0, none⟩) 32 32 := hd 1 (by decide)
      have e3 : x 3 = .slice (some ⟨w.heap.size, 32, none⟩) 32 32 := hd 3 (by decide)
      have r6 : Rd wr (x 6) (B1) := hd 6 (by decide)
      have r9 : Rd wr (x 9) (B2) := hd 9 (by decide)
      have r12 : Rd wr (x 12) (B3) := hd 12 (by decide)
      generalize x 1 = y1 at e1 hK ⊢
      subst e1
      generalize x 3 = y3 at e3 hK ⊢
      subst e3
      have RA := (RT.out.nx hx)
      have RB := (RU.out.nx hx)
      refine wpOp_of rfl rfl (wp_mk_of (some 16) rfl 57 5 _ rfl (#[(0, .slice (some ⟨w.heap.size, 0, none⟩) 32 32), (1, .slice (some ⟨w.heap.size, 32, none⟩) 32 32), (2, x 6), (3, x 9), (4, x 12)]) (by kernel_rfl) _ _ (run_mk5 RA.sl RB.sl r6.sl r9.sl r12.sl wr) (hK _ _ ?_ ((Nx.refl wr).alloc _)))
      exact catAt5 RA RB r6 r9 r12
    · have r13 := hd 13 (by decide)
      have r12 : Rd wr (x 12) (B3) := hd 12 (by decide)
      refine wpOp_of rfl rfl (wp_callp_of (some 17) rfl 15 #[x 13] (by kernel_rfl) (fun v w1 => Own w.heap.size w1 v L) (HCC.out wr _ r13 (Nat.le_trans HWS hx.size)) hK)
    · have r14 := hd 14 (by decide)
      exact wpOp_of rfl rfl (wp_val_of (some 2) rfl (x 14) (by kernel_rfl) (hK _ _ r14 (Nx.refl _)))
  · intro x tm wr htm hx hv
    simp only [fillA, List.setIfInBounds_toArray, List.set_cons_zero, List.set_cons_succ] at htm
    subst htm
    have r15 := hv 15 (by decide)
    go_wp2_with fail
    go_ret
    exact ⟨_, rfl, r15, NW.out.trans hx⟩
end Go.Proofs.YtpijehaciomkhaaDoor
end
