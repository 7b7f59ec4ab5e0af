/- THE REFERENCE OF LAYER 3: Over. -/
import Derived.Test.YtggemncdnclhnaaRefLess
import Derived.Test.YtggemncdnclhnaaRegLaws
import Derived.Test.YtggemncdnclhnaaLawBigAdds
import Derived.Test.YtggemncdnclhnaaLawBigOrder
import Derived.Test.YtggemncdnclhnaaBigPure3
import Derived.Lib.QuietBelow
namespace Go.Proofs.Ytggemncdnclhnaa
open Go.RowKit
set_option linter.unusedVariables false
set_option linter.unusedSimpArgs false

/-- Bits by a rule. -/
def gen (f : Nat → Bool) : List Bool := (List.range 256).map f
theorem gen_length (f : Nat → Bool) : (gen f).length = 256 := by simp [gen]
theorem gen_get (f : Nat → Bool) (i : Nat) (h : i < 256) : (bcel (gen f))[i]? = some (.bool (f i)) := by
  rw [bcel_get _ i (by rw [gen_length]; exact h)]
  simp [gen]
theorem gen_ext {f g : Nat → Bool} (h : ∀ i, i < 256 → f i = g i) : gen f = gen g := by
  unfold gen
  apply List.ext_getElem
  · simp
  · intro i h1 h2
    simp at h1
    simp [h i h1]
theorem gen_set (f : Nat → Bool) (k : Nat) (v : Bool) : (gen f).set k v = gen (fun i => if i = k then v else f i) := by
  unfold gen
  apply List.ext_getElem
  · simp
  · intro i h1 h2
    simp [List.getElem_set, eq_comm]
theorem gen_bits (n : Nat) : gen n.testBit = bitsL n := rfl
theorem gen_zero : gen (fun _ => false) = zb := by
  unfold gen zb
  apply List.ext_getElem
  · rw [List.length_map, List.length_range, List.length_replicate]
  · intro i h1 h2
    rw [List.getElem_map, List.getElem_replicate]
/-- Moved up by one from above, down to k. -/
def shf (R k i : Nat) : Bool := if k < i then R.testBit (i - 1) else R.testBit i
theorem shf_start (R : Nat) : gen (shf R 255) = bitsL R := gen_ext fun i h => by unfold shf; rw [if_neg (by omega)]
theorem shf_step (R k : Nat) (h : 0 < k) : (gen (shf R k)).set k (R.testBit (k - 1)) = gen (shf R (k - 1)) := by
  rw [gen_set]
  refine gen_ext fun i hi => ?_
  unfold shf
  by_cases e : i = k
  · subst e; rw [if_pos rfl, if_pos (by omega)]
  · rw [if_neg e]
    by_cases h2 : k < i
    · rw [if_pos h2, if_pos (by omega)]
    · rw [if_neg h2, if_neg (by omega)]
theorem shf_end (R : Nat) (x : Bool) : (gen (shf R 0)).set 0 x = bitsL (2 * R + x.toNat) := by
  rw [gen_set, ← gen_bits]
  refine gen_ext fun i hi => ?_
  have hd : (2 * R + x.toNat) / 2 = R := by cases x <;> simp <;> omega
  rcases Nat.eq_zero_or_pos i with rfl | hp
  · rw [if_pos rfl, Nat.testBit_zero]
    cases x <;> simp <;> omega
  · obtain ⟨j, rfl⟩ : ∃ j, i = j + 1 := ⟨i - 1, by omega⟩
    rw [if_neg (by omega), Nat.testBit_succ, hd]
    unfold shf
    rw [if_pos (by omega), Nat.add_sub_cancel]
/-- The bits of n from k on. -/
def hib (n k i : Nat) : Bool := decide (k ≤ i) && n.testBit i
theorem hib_top (n : Nat) : gen (hib n 256) = zb := by
  rw [← gen_zero]
  exact gen_ext fun i h => by unfold hib; rw [decide_eq_false (by omega), Bool.false_and]
theorem hib_all (n : Nat) : gen (hib n 0) = bitsL n := gen_ext fun i h => by unfold hib; simp
theorem hib_yes (n j : Nat) (h : n.testBit j = true) : (gen (hib n (j + 1))).set j true = gen (hib n j) := by
  rw [gen_set]
  refine gen_ext fun i hi => ?_
  unfold hib
  by_cases e : i = j
  · subst e; rw [if_pos rfl, h]; simp
  · rw [if_neg e]
    by_cases h2 : j + 1 ≤ i
    · rw [decide_eq_true h2, decide_eq_true (show j ≤ i by omega)]
    · rw [decide_eq_false h2, decide_eq_false (show ¬ j ≤ i by omega)]
theorem hib_no (n j : Nat) (h : n.testBit j = false) : gen (hib n (j + 1)) = gen (hib n j) := by
  refine gen_ext fun i hi => ?_
  unfold hib
  by_cases e : i = j
  · subst e; rw [h]; simp
  · by_cases h2 : j + 1 ≤ i
    · rw [decide_eq_true h2, decide_eq_true (show j ≤ i by omega)]
    · rw [decide_eq_false h2, decide_eq_false (show ¬ j ≤ i by omega)]
/-- One digit of a long division. -/
theorem long_step (a b j : Nat) (hb : 0 < b) : let R := a / 2 ^ (j + 1) % b; let T := 2 * R + (a.testBit j).toNat
    (a / b).testBit j = decide (b ≤ T) ∧ (b ≤ T → a / 2 ^ j % b = T - b) ∧ (¬ b ≤ T → a / 2 ^ j % b = T) ∧ T < 2 * b := by
  intro R T
  have h1 : a / 2 ^ j = 2 * (a / 2 ^ (j + 1)) + (a.testBit j).toNat := by
    have := bit_mod a j
    rw [Nat.pow_succ, ← Nat.div_div_eq_div_mul]
    omega
  have hR := Nat.mod_lt (a / 2 ^ (j + 1)) hb
  have hD := Nat.div_add_mod (a / 2 ^ (j + 1)) b
  have hx : (a.testBit j).toNat ≤ 1 := by cases a.testBit j <;> decide
  have e : a / b / 2 ^ j = a / 2 ^ j / b := by rw [Nat.div_div_eq_div_mul, Nat.div_div_eq_div_mul, Nat.mul_comm]
  have hT : T = 2 * R + (a.testBit j).toNat := rfl
  have hRd : R = a / 2 ^ (j + 1) % b := rfl
  rw [← hRd] at hR hD
  generalize a / 2 ^ (j + 1) / b = Q at *
  have hA : a / 2 ^ j = T + b * (2 * Q) := by
    rw [h1, ← hD, hT, Nat.mul_left_comm b 2 Q]; omega
  rw [Nat.testBit_eq_decide_div_mod_eq, e, hA, Nat.add_mul_div_left _ _ hb, Nat.add_mul_mod_self_left, Nat.add_mul_mod_self_left]
  have hTb : T < 2 * b := by omega
  clear hD hA hT hRd e h1
  refine ⟨?_, fun h => ?_, fun h => ?_, hTb⟩
  · by_cases h : b ≤ T
    · have : T / b = 1 := by rw [Nat.div_eq_iff hb]; omega
      rw [this, decide_eq_true h, decide_eq_true (by omega)]
    · rw [Nat.div_eq_of_lt (by omega), decide_eq_false h, decide_eq_false (by omega)]
  · rw [Nat.mod_eq_sub_mod h, Nat.mod_eq_of_lt (by omega)]
  · rw [Nat.mod_eq_of_lt (by omega)]
theorem info_u256 : (Try.prog.info? 24).map (fun i => (i.zero, i.size)) = some (some (.agg #[.int .u64 0, .int .u64 0, .int .u64 0, .int .u64 0]), 4) := by kernel_rfl
theorem hzU : ∀ w, (zeroValue 24).run Try.prog w = .ok (.agg #[.int .u64 0, .int .u64 0, .int .u64 0, .int .u64 0]) w := (zero_of_info info_u256).1
theorem hsU (a : Nat) : (Try.prog.info? 24).map (·.size) = some (#[.int .u64 (lim a 0 : Int), .int .u64 (lim a 1 : Int), .int .u64 (lim a 2 : Int), .int .u64 (lim a 3 : Int)] : Array Value).size := (zero_of_info info_u256).2
theorem oneU (a : Nat) : (#[.int .u64 (lim a 0 : Int), .int .u64 (lim a 1 : Int), .int .u64 (lim a 2 : Int), .int .u64 (lim a 3 : Int)] : Array Value).all (·.oneCell') = true := by simp [Value.oneCell']
theorem hsB (l : List Bool) (h : l.length = 256) : (Try.prog.info? 60).map (·.size) = some (bcel l).size := by rw [bcel_size, h]; exact (zero_of_info info_bits).2
def Over16 (a b t d : Nat) (v : Bool) (q : List Bool) (gB g4 g5 gX gQ gR : Nat) (w W : World) (u58 u59 u60 u61 u111 u112 u113 u116 u117 u118 u119 u120 u121 u122 u123 u124 u125 u126 u127 u128 u129 u130 u131 u132 u133 u134 u135 u136 u137 u138 u139 u140 u141 u142 u143 u144 u145 u146 u147 u148 u149 u150 : Value) (L : Nat → Bool) (ac : Act) (wr : World) : Prop :=
  ∃ x0 x1 x2 x3 x4 x5 x6 x7 x9 : Value, ac = ⟨#[Value.agg #[Value.int IntKind.u64 ↑(lim a 0), Value.int IntKind.u64 ↑(lim a 1), Value.int IntKind.u64 ↑(lim a 2), Value.int IntKind.u64 ↑(lim a 3)], Value.agg #[Value.int IntKind.u64 ↑(lim b 0), Value.int IntKind.u64 ↑(lim b 1), Value.int IntKind.u64 ↑(lim b 2), Value.int IntKind.u64 ↑(lim b 3)], Value.pointer (some { block := w.heap.size, off := 0 }), Value.pointer (some { block := gB, off := 0 }), Value.pointer (some { block := g4, off := 0 }), Value.pointer (some { block := g5, off := 0 }), Value.int IntKind.i64 0, Value.pointer (some { block := g5 + 1, off := 0 }), Value.pointer (some { block := gX, off := 0 }), Value.pointer (some { block := gQ, off := 0 }), Value.pointer (some { block := gR, off := 0 }), u111, u112, u113, x7, x9, u116, u117, u118, u119, u120, u121, u122, u123, u124, u125, u126, u127, u128, u129, u130, u131, u132, u133, u134, u135, u136, u137, u138, u139, u140, u141, u142, u143, u144, u145, u146, u147, u148, u149, u150, x4, x0, x1, x2, x3, x5, x6, u58, u59, u60, u61, undef, undef, undef, undef], []⟩ ∧ Nx w wr ∧ W.heap.size ≤ wr.heap.size ∧ Row wr gB #[.int .u64 (lim b 0 : Int), .int .u64 (lim b 1 : Int), .int .u64 (lim b 2 : Int), .int .u64 (lim b 3 : Int)] 24 ∧ Row wr g4 #[.int .u64 0, .int .u64 0, .int .u64 0, .int .u64 0] 24 ∧ Row wr g5 #[.int .u64 0, .int .u64 0, .int .u64 0, .int .u64 0] 24 ∧ Row wr gX (bcel (bitsL a)) 60 ∧ Row wr gQ (bcel q) 60 ∧ Row wr gR (bcel (bitsL t)) 60 ∧ (L 0 = true → x0 = .agg (bcel (bitsL t))) ∧ (L 1 = true → x1 = .agg #[.int .u64 (lim t 0 : Int), .int .u64 (lim t 1 : Int), .int .u64 (lim t 2 : Int), .int .u64 (lim t 3 : Int)]) ∧ (L 2 = true → x2 = .agg #[.int .u64 (lim b 0 : Int), .int .u64 (lim b 1 : Int), .int .u64 (lim b 2 : Int), .int .u64 (lim b 3 : Int)]) ∧ (L 3 = true → x3 = .tuple #[.agg #[.int .u64 (lim d 0 : Int), .int .u64 (lim d 1 : Int), .int .u64 (lim d 2 : Int), .int .u64 (lim d 3 : Int)], .bool v]) ∧ (L 4 = true → x4 = .tuple #[.agg #[.int .u64 (lim d 0 : Int), .int .u64 (lim d 1 : Int), .int .u64 (lim d 2 : Int), .int .u64 (lim d 3 : Int)], .bool v]) ∧ (L 5 = true → x5 = .agg #[.int .u64 (lim d 0 : Int), .int .u64 (lim d 1 : Int), .int .u64 (lim d 2 : Int), .int .u64 (lim d 3 : Int)]) ∧ (L 6 = true → x6 = .bool v) ∧ (L 7 = true → ∃ g, x7 = .pointer (some ⟨g, 0, none⟩) ∧ W.heap.size ≤ g ∧ Row wr g (if L 8 = true then #[.int .u64 (lim d 0 : Int), .int .u64 (lim d 1 : Int), .int .u64 (lim d 2 : Int), .int .u64 (lim d 3 : Int)] else #[.int .u64 0, .int .u64 0, .int .u64 0, .int .u64 0]) 24) ∧ (L 9 = true → x9 = .bool v) ∧ (L 8 = true → L 7 = true)
def Over19 (a b qn rn : Nat) (gB g4 g5 gX gQ gR : Nat) (w W : World) (u12 u13 u14 u15 u25 u26 u27 u28 u29 u30 u31 u32 u33 u34 u35 u36 u37 u38 u39 u40 u41 u42 u43 u44 u45 u46 u47 u48 u49 u50 u51 u52 u53 u54 u55 u56 u57 u58 u59 u60 u61 : Value) (L : Nat → Bool) (ac : Act) (wr : World) : Prop :=
  ∃ x0 x1 x2 x3 x6 : Value, ac = ⟨#[Value.agg #[Value.int IntKind.u64 ↑(lim a 0), Value.int IntKind.u64 ↑(lim a 1), Value.int IntKind.u64 ↑(lim a 2), Value.int IntKind.u64 ↑(lim a 3)], Value.agg #[Value.int IntKind.u64 ↑(lim b 0), Value.int IntKind.u64 ↑(lim b 1), Value.int IntKind.u64 ↑(lim b 2), Value.int IntKind.u64 ↑(lim b 3)], Value.pointer (some { block := w.heap.size, off := 0 }), Value.pointer (some { block := gB, off := 0 }), Value.pointer (some { block := g4, off := 0 }), Value.pointer (some { block := g5, off := 0 }), x6, Value.pointer (some { block := g5 + 1, off := 0 }), Value.pointer (some { block := gX, off := 0 }), Value.pointer (some { block := gQ, off := 0 }), Value.pointer (some { block := gR, off := 0 }), Value.int IntKind.i64 (↑0 - 1), u12, u13, u14, u15, Value.agg #[Value.int IntKind.u64 ↑(lim b 0), Value.int IntKind.u64 ↑(lim b 1), Value.int IntKind.u64 ↑(lim b 2), Value.int IntKind.u64 ↑(lim b 3)], Value.agg #[Value.int IntKind.u64 0, Value.int IntKind.u64 0, Value.int IntKind.u64 0, Value.int IntKind.u64 0], Value.bool false, undef, undef, Value.agg #[Value.int IntKind.u64 ↑(lim a 0), Value.int IntKind.u64 ↑(lim a 1), Value.int IntKind.u64 ↑(lim a 2), Value.int IntKind.u64 ↑(lim a 3)], Value.agg (bcel (bitsL a)), Value.int IntKind.i64 (↑0 - 1), Value.bool false, u25, u26, u27, u28, u29, u30, u31, u32, u33, u34, u35, u36, u37, u38, u39, u40, u41, u42, u43, u44, u45, u46, u47, u48, u49, u50, u51, u52, u53, u54, u55, u56, u57, u58, u59, u60, u61, x0, x1, x2, x3], []⟩ ∧ Nx w wr ∧ W.heap.size ≤ wr.heap.size ∧ Row wr gB #[.int .u64 (lim b 0 : Int), .int .u64 (lim b 1 : Int), .int .u64 (lim b 2 : Int), .int .u64 (lim b 3 : Int)] 24 ∧ Row wr g4 (if L 4 = true then #[.int .u64 (lim qn 0 : Int), .int .u64 (lim qn 1 : Int), .int .u64 (lim qn 2 : Int), .int .u64 (lim qn 3 : Int)] else #[.int .u64 0, .int .u64 0, .int .u64 0, .int .u64 0]) 24 ∧ Row wr g5 (if L 5 = true then #[.int .u64 (lim rn 0 : Int), .int .u64 (lim rn 1 : Int), .int .u64 (lim rn 2 : Int), .int .u64 (lim rn 3 : Int)] else #[.int .u64 0, .int .u64 0, .int .u64 0, .int .u64 0]) 24 ∧ Row wr gX (bcel (bitsL a)) 60 ∧ Row wr gQ (bcel (bitsL qn)) 60 ∧ Row wr gR (bcel (bitsL rn)) 60 ∧ (L 0 = true → x0 = .agg (bcel (bitsL qn))) ∧ (L 1 = true → x1 = .agg #[.int .u64 (lim qn 0 : Int), .int .u64 (lim qn 1 : Int), .int .u64 (lim qn 2 : Int), .int .u64 (lim qn 3 : Int)]) ∧ (L 2 = true → x2 = .agg (bcel (bitsL rn))) ∧ (L 3 = true → x3 = .agg #[.int .u64 (lim rn 0 : Int), .int .u64 (lim rn 1 : Int), .int .u64 (lim rn 2 : Int), .int .u64 (lim rn 3 : Int)]) ∧ (L 6 = true → x6 = .int .i64 0)

/-- What lies where while it is divided. -/
structure OvK (w : World) (U T : TypeId) (gB g4 g5 gX gQ gR a b : Nat) (q r : List Bool) (wr : World) : Prop where
  nx : Nx w wr
  rB : Row wr gB #[.int .u64 (lim b 0 : Int), .int .u64 (lim b 1 : Int), .int .u64 (lim b 2 : Int), .int .u64 (lim b 3 : Int)] U
  r4 : Row wr g4 #[.int .u64 0, .int .u64 0, .int .u64 0, .int .u64 0] U
  r5 : Row wr g5 #[.int .u64 0, .int .u64 0, .int .u64 0, .int .u64 0] U
  rX : Row wr gX (bcel (bitsL a)) T
  rQ : Row wr gQ (bcel q) T
  rR : Row wr gR (bcel r) T
  o0 : w.heap.size ≤ gB
  o1 : gB < g4
  o2 : g4 < g5
  o3 : g5 < gX
  o4 : gX < gQ
  o5 : gQ < gR
section
variable {w wr : World} {U T : TypeId} {gB g4 g5 gX gQ gR a b : Nat} {q r : List Bool}
theorem OvK.on (h : OvK w U T gB g4 g5 gX gQ gR a b q r wr) {w' : World} (k : Nx wr w') : OvK w U T gB g4 g5 gX gQ gR a b q r w' :=
  ⟨h.nx.trans k, h.rB.nx k, h.r4.nx k, h.r5.nx k, h.rX.nx k, h.rQ.nx k, h.rR.nx k, h.o0, h.o1, h.o2, h.o3, h.o4, h.o5⟩
theorem OvK.setR (h : OvK w U T gB g4 g5 gX gQ gR a b q r wr) (k : Nat) (v : Bool) : OvK w U T gB g4 g5 gX gQ gR a b q (r.set k v) (wr.setCell ⟨gR, k, none⟩ (.bool v)) :=
  have := h.o0; have := h.o1; have := h.o2; have := h.o3; have := h.o4; have := h.o5
  ⟨h.nx.setAt _ (by omega), h.rB.other _ _ _ (by omega), h.r4.other _ _ _ (by omega), h.r5.other _ _ _ (by omega), h.rX.other _ _ _ (by omega), h.rQ.other _ _ _ (by omega), by rw [← bcel_set]; exact h.rR.set k _, h.o0, h.o1, h.o2, h.o3, h.o4, h.o5⟩
theorem OvK.setQ (h : OvK w U T gB g4 g5 gX gQ gR a b q r wr) (k : Nat) (v : Bool) : OvK w U T gB g4 g5 gX gQ gR a b (q.set k v) r (wr.setCell ⟨gQ, k, none⟩ (.bool v)) :=
  have := h.o0; have := h.o1; have := h.o2; have := h.o3; have := h.o4; have := h.o5
  ⟨h.nx.setAt _ (by omega), h.rB.other _ _ _ (by omega), h.r4.other _ _ _ (by omega), h.r5.other _ _ _ (by omega), h.rX.other _ _ _ (by omega), by rw [← bcel_set]; exact h.rQ.set k _, h.rR.other _ _ _ (by omega), h.o0, h.o1, h.o2, h.o3, h.o4, h.o5⟩
theorem OvK.rowR (h : OvK w U T gB g4 g5 gX gQ gR a b q r wr) (r' : List Bool) : OvK w U T gB g4 g5 gX gQ gR a b q r' (wr.setRow gR (bcel r')) :=
  have := h.o0; have := h.o1; have := h.o2; have := h.o3; have := h.o4; have := h.o5
  ⟨h.nx.setRow _ (by omega), h.rB.setRow_other _ (by omega), h.r4.setRow_other _ (by omega), h.r5.setRow_other _ (by omega), h.rX.setRow_other _ (by omega), h.rQ.setRow_other _ (by omega), h.rR.setRow _, h.o0, h.o1, h.o2, h.o3, h.o4, h.o5⟩
end
theorem refSub_over (t b : Nat) (hb : b < top) (ht : t < 2 * b) (hbt : b ≤ t) (w : World) :
    Calls Try.prog 29 #[.agg #[.int .u64 (lim t 0 : Int), .int .u64 (lim t 1 : Int), .int .u64 (lim t 2 : Int), .int .u64 (lim t 3 : Int)], .agg #[.int .u64 (lim b 0 : Int), .int .u64 (lim b 1 : Int), .int .u64 (lim b 2 : Int), .int .u64 (lim b 3 : Int)]] w fun e w' => e = .returned (.tuple #[.agg #[.int .u64 (lim (t - b) 0 : Int), .int .u64 (lim (t - b) 1 : Int), .int .u64 (lim (t - b) 2 : Int), .int .u64 (lim (t - b) 3 : Int)], .bool (subB (t % top) b)]) ∧ Nx w w' := by
  have h := refSub_is (t % top) b w (Nat.mod_lt _ (by decide)) hb
  obtain ⟨e0, e1, e2, e3⟩ := lim_mod t
  rw [e0, e1, e2, e3] at h
  have e : subN (t % top) b = t - b := by
    unfold subN
    by_cases hl : t < top
    · rw [Nat.mod_eq_of_lt hl, if_pos hbt]
    · rw [Nat.mod_eq_sub_mod (by omega), Nat.mod_eq_of_lt (by omega), if_neg (by omega)]; omega
  rw [e] at h
  exact h

set_option maxHeartbeats 8000000 in
set_option maxRecDepth 100000 in
theorem refOver_yes (a b : Nat) (w : World) (ha : a < top) (hb : b < top) (hb0 : 0 < b) :
    Calls Try.prog 33 #[.agg #[.int .u64 (lim a 0 : Int), .int .u64 (lim a 1 : Int), .int .u64 (lim a 2 : Int), .int .u64 (lim a 3 : Int)], .agg #[.int .u64 (lim b 0 : Int), .int .u64 (lim b 1 : Int), .int .u64 (lim b 2 : Int), .int .u64 (lim b 3 : Int)]] w fun e w' => e = .returned (.tuple #[.agg #[.int .u64 (lim (a / b) 0 : Int), .int .u64 (lim (a / b) 1 : Int), .int .u64 (lim (a / b) 2 : Int), .int .u64 (lim (a / b) 3 : Int)], .agg #[.int .u64 (lim (a % b) 0 : Int), .int .u64 (lim (a % b) 1 : Int), .int .u64 (lim (a % b) 2 : Int), .int .u64 (lim (a % b) 3 : Int)], .int .i64 0]) ∧ Nx w w' := by
  have hz := (zero_of_info info_bits).1
  have HB := Lib.hid (fun w => refBits_any a w)
  have heq0 : ∀ w, (Op.equalIn 10000 24 (.agg #[.int .u64 (lim b 0 : Int), .int .u64 (lim b 1 : Int), .int .u64 (lim b 2 : Int), .int .u64 (lim b 3 : Int)]) (.agg #[.int .u64 0, .int .u64 0, .int .u64 0, .int .u64 0])).run Try.prog w = .ok false w := fun w => by
    have h := eqU b 0 hb (by decide) w
    obtain ⟨z0, z1, z2, z3⟩ := lim_nought
    rw [z0, z1, z2, z3, decide_eq_false (show ¬ b = 0 by omega)] at h
    exact h
  have HSZ := Lib.hid (hsB (bitsL a) (bitsL_length a))
  have HO : Hid ((bcel zb).size = (bcel (bitsL a)).size) := Lib.hid (by rw [bcel_size, bcel_size, bitsL_length, zb, List.length_replicate])
  have HA := Lib.hid ha
  have HBT := Lib.hid hb
  have HB0 := Lib.hid hb0
  clear ha hb hb0
  go_enter Try.func33, Try.ntmps33
  go_wp2_with fail
  refine (HB.out _).mono ?_
  rintro e w1 ⟨rfl, hb1⟩
  have RB := ((((Row.new2 w (.cells #[.int .u64 (lim a 0 : Int), .int .u64 (lim a 1 : Int), .int .u64 (lim a 2 : Int), .int .u64 (lim a 3 : Int)] 24) #[.int .u64 (lim b 0 : Int), .int .u64 (lim b 1 : Int), .int .u64 (lim b 2 : Int), .int .u64 (lim b 3 : Int)] 24).alloc (.cells #[.int .u64 0, .int .u64 0, .int .u64 0, .int .u64 0] 24)).alloc (.cells #[.int .u64 0, .int .u64 0, .int .u64 0, .int .u64 0] 24)).alloc (.cells #[.int .u64 0, .int .u64 0, .int .u64 0, .int .u64 0] 24)).nx hb1
  have R4 := (((Row.new3 w (.cells #[.int .u64 (lim a 0 : Int), .int .u64 (lim a 1 : Int), .int .u64 (lim a 2 : Int), .int .u64 (lim a 3 : Int)] 24) (.cells #[.int .u64 (lim b 0 : Int), .int .u64 (lim b 1 : Int), .int .u64 (lim b 2 : Int), .int .u64 (lim b 3 : Int)] 24) #[.int .u64 0, .int .u64 0, .int .u64 0, .int .u64 0] 24).alloc (.cells #[.int .u64 0, .int .u64 0, .int .u64 0, .int .u64 0] 24)).alloc (.cells #[.int .u64 0, .int .u64 0, .int .u64 0, .int .u64 0] 24)).nx hb1
  have R5 := ((Row.new (((w.alloc (.cells #[.int .u64 (lim a 0 : Int), .int .u64 (lim a 1 : Int), .int .u64 (lim a 2 : Int), .int .u64 (lim a 3 : Int)] 24)).alloc (.cells #[.int .u64 (lim b 0 : Int), .int .u64 (lim b 1 : Int), .int .u64 (lim b 2 : Int), .int .u64 (lim b 3 : Int)] 24)).alloc (.cells #[.int .u64 0, .int .u64 0, .int .u64 0, .int .u64 0] 24)) #[.int .u64 0, .int .u64 0, .int .u64 0, .int .u64 0] 24 (w.heap.size + 1 + 1 + 1) (by simp)).alloc (.cells #[.int .u64 0, .int .u64 0, .int .u64 0, .int .u64 0] 24)).nx hb1
  have N1 := Lib.hid ((((((Nx.refl w).alloc (.cells #[.int .u64 (lim a 0 : Int), .int .u64 (lim a 1 : Int), .int .u64 (lim a 2 : Int), .int .u64 (lim a 3 : Int)] 24)).alloc (.cells #[.int .u64 (lim b 0 : Int), .int .u64 (lim b 1 : Int), .int .u64 (lim b 2 : Int), .int .u64 (lim b 3 : Int)] 24)).alloc (.cells #[.int .u64 0, .int .u64 0, .int .u64 0, .int .u64 0] 24)).alloc (.cells #[.int .u64 0, .int .u64 0, .int .u64 0, .int .u64 0] 24)).alloc (.cells #[.int .u64 0, .int .u64 0, .int .u64 0, .int .u64 0] 24) |>.trans hb1)
  have RT := Row.new w1 (bcel zb) 60 w1.heap.size rfl
  have HW1 := Lib.hid R5.lt
  clear hb1
  go_wp2_with (first | (refine wpList_store_row rfl 60 (.tmp 8) (.tmp 22) rfl w1.heap.size (bcel (bitsL a)) rfl rfl 60 (bcel zb) RT HSZ.out HO.out (bcel_one _) ?_))
  have HK : Hid (OvK w 24 60 (w.heap.size + 1) (w.heap.size + 1 + 1) (w.heap.size + 1 + 1 + 1) w1.heap.size (w1.heap.size + 1) (w1.heap.size + 1 + 1) a b zb zb ((((w1.alloc (.cells (bcel zb) 60)).setRow w1.heap.size (bcel (bitsL a))).alloc (.cells (bcel zb) 60)).alloc (.cells (bcel zb) 60))) := Lib.hid
    ⟨(((N1.out.alloc _).setRow _ N1.out.size).alloc _).alloc _,
     ((RB.alloc _).setRow_other _ (by have := HW1.out; omega)).alloc _ |>.alloc _, ((R4.alloc _).setRow_other _ (by have := HW1.out; omega)).alloc _ |>.alloc _, ((R5.alloc _).setRow_other _ (by have := HW1.out; omega)).alloc _ |>.alloc _,
     ((RT.setRow _).alloc _).alloc _, (Row.new _ _ _ _ (by rw [size_setRow]; simp)).alloc _, Row.new _ _ _ _ (by rw [alloc_size, size_setRow]; simp), by omega, by omega, by omega, HW1.out, by omega, by omega⟩
  clear RB R4 R5 N1 RT HB HO HSZ
  generalize ((((w1.alloc (.cells (bcel zb) 60)).setRow w1.heap.size (bcel (bitsL a))).alloc (.cells (bcel zb) 60)).alloc (.cells (bcel zb) 60)) = W0 at *
  generalize w1.heap.size + 1 + 1 = gR at *
  generalize w1.heap.size + 1 = gQ at *
  generalize w1.heap.size = gX at *
  generalize w.heap.size + 1 + 1 + 1 = g5 at *
  generalize w.heap.size + 1 + 1 = g4 at *
  generalize w.heap.size + 1 = gB at *
  go_loopw [11] (fun i wr => ∃ k : Nat, k ≤ 256 ∧ i = .int .i64 ((k : Int) - 1) ∧ Hid (OvK w 24 60 gB g4 g5 gX gQ gR a b (gen (hib (a / b) k)) (bitsL (a / 2 ^ k % b)) wr)) (fun i _ => (intOf i + 1).toNat)
  case atStart =>
    refine ⟨256, by omega, rfl, ?_⟩
    have e : bitsL (a / 2 ^ 256 % b) = zb := by
      rw [← top_eq, Nat.div_eq_of_lt HA.out, Nat.zero_mod, ← gen_bits, ← gen_zero]
      exact gen_ext fun i _ => by simp
    rw [hib_top, e]
    exact HK
  case round =>
    clear HK
    obtain ⟨k, hk, rfl, HK⟩ := hrel
    by_cases hk0 : k = 0
    · subst hk0
      rw [hib_all, Nat.pow_zero, Nat.div_one] at HK
      clear heq0 hz
      generalize hQN : a / b = QN at *
      generalize hRN : a % b = RN at *
      replace hQN := Lib.hid hQN
      replace hRN := Lib.hid hRN
      have HN0 := Lib.hid HK.out.nx
      have K00 := HK.out.rB
      have K10 := HK.out.r4
      have K20 := HK.out.r5
      have K30 := HK.out.rX
      have K40 := HK.out.rQ
      have K50 := HK.out.rR
      have ho0 := HK.out.o0
      have ho1 := HK.out.o1
      have ho2 := HK.out.o2
      have ho3 := HK.out.o3
      have ho4 := HK.out.o4
      have ho5 := HK.out.o5
      obtain ⟨W, rfl⟩ : ∃ W : World, W = wr := ⟨_, rfl⟩
      go_wp2_with fail
      refine wp_region_inv [[], [0], [], [2, 1], [1, 3, 0, 1], [3, 4, 0, 1, 2, 3, 4], [5, 0, 1, 2, 3, 4, 5]] (Over19 a b QN RN gB g4 g5 gX gQ gR w W u12 u13 u14 u15 u25 u26 u27 u28 u29 u30 u31 u32 u33 u34 u35 u36 u37 u38 u39 u40 u41 u42 u43 u44 u45 u46 u47 u48 u49 u50 u51 u52 u53 u54 u55 u56 u57 u58 u59 u60 u61) (by kernel_rfl) (by kernel_rfl) (hord_of (by decide)) ?_ ?_ ?_
      · exact ⟨_, _, _, _, _, rfl, HN0.out.drew, Nat.le_refl _, K00.drew, K10.drew, K20.drew, K30.drew, K40.drew, K50.drew, (fun h => by cases h), (fun h => by cases h), (fun h => by cases h), (fun h => by cases h), (fun h => by cases h)⟩
      · rintro L ac wr ⟨x0, x1, x2, x3, x6, rfl, HN, HZ, K0, K1, K2, K3, K4, K5, F0, F1, F2, F3, F6⟩ i hi hL hd K hK
        have hi' : i < 7 := hi
        have hcs : i = 0 ∨ i = 1 ∨ i = 2 ∨ i = 3 ∨ i = 4 ∨ i = 5 ∨ i = 6 := by omega
        clear hi hi'
        rcases hcs with rfl | rfl | rfl | rfl | rfl | rfl | rfl
        · refine wpOp_of rfl rfl (wp_load_row 60 (.tmp 9) rfl gQ rfl 60 (bcel (bitsL QN)) (0, 0) _ K4 Try.underlying60 rfl (hsB _ (bitsL_length _)) (hK _ _ ?_))
          exact ⟨_, x1, x2, x3, x6, rfl, HN, HZ, K0, K1, K2, K3, K4, K5, (fun _ => rfl), F1, F2, F3, F6⟩
        · have e0 := F0 (hd 0 (by decide))
          subst e0
          refine wpOp_of rfl rfl (wp_call_of (some 63) rfl 57 #[.agg (bcel (bitsL QN))] (by kernel_rfl) _ (refNumber_any QN wr) (fun w' hn => hK _ _ ?_))
          exact ⟨_, _, x2, x3, x6, rfl, HN.trans hn, Nat.le_trans HZ hn.size, K0.nx hn, K1.nx hn, K2.nx hn, K3.nx hn, K4.nx hn, K5.nx hn, F0, (fun _ => rfl), F2, F3, F6⟩
        · refine wpOp_of rfl rfl (wp_load_row 60 (.tmp 10) rfl gR rfl 60 (bcel (bitsL RN)) (0, 0) _ K5 Try.underlying60 rfl (hsB _ (bitsL_length _)) (hK _ _ ?_))
          exact ⟨x0, x1, _, x3, x6, rfl, HN, HZ, K0, K1, K2, K3, K4, K5, F0, F1, (fun _ => rfl), F3, F6⟩
        · have e2 := F2 (hd 2 (by decide))
          subst e2
          refine wpOp_of rfl rfl (wp_call_of (some 65) rfl 57 #[.agg (bcel (bitsL RN))] (by kernel_rfl) _ (refNumber_any RN wr) (fun w' hn => hK _ _ ?_))
          exact ⟨x0, x1, _, _, x6, rfl, HN.trans hn, Nat.le_trans HZ hn.size, K0.nx hn, K1.nx hn, K2.nx hn, K3.nx hn, K4.nx hn, K5.nx hn, F0, F1, F2, (fun _ => rfl), F6⟩
        · have e1 := F1 (hd 1 (by decide))
          subst e1
          rw [if_neg (by rw [hL]; decide)] at K1
          refine wpOp_of rfl rfl (wp_store_row 24 (.tmp 4) (.tmp 63) rfl g4 (#[.int .u64 (lim QN 0 : Int), .int .u64 (lim QN 1 : Int), .int .u64 (lim QN 2 : Int), .int .u64 (lim QN 3 : Int)]) rfl rfl 24 (#[.int .u64 0, .int .u64 0, .int .u64 0, .int .u64 0]) K1 (hsU QN) rfl (oneU QN) (hK _ _ ?_))
          exact ⟨x0, _, x2, x3, x6, rfl, HN.setRow _ (by omega), (by rw [size_setRow]; exact HZ), K0.setRow_other _ (by omega), K1.setRow _, K2.setRow_other _ (by omega), K3.setRow_other _ (by omega), K4.setRow_other _ (by omega), K5.setRow_other _ (by omega), F0, F1, F2, F3, F6⟩
        · have e3 := F3 (hd 3 (by decide))
          subst e3
          rw [if_neg (by rw [hL]; decide)] at K2
          refine wpOp_of rfl rfl (wp_store_row 24 (.tmp 5) (.tmp 65) rfl g5 (#[.int .u64 (lim RN 0 : Int), .int .u64 (lim RN 1 : Int), .int .u64 (lim RN 2 : Int), .int .u64 (lim RN 3 : Int)]) rfl rfl 24 (#[.int .u64 0, .int .u64 0, .int .u64 0, .int .u64 0]) K2 (hsU RN) rfl (oneU RN) (hK _ _ ?_))
          exact ⟨x0, x1, x2, _, x6, rfl, HN.setRow _ (by omega), (by rw [size_setRow]; exact HZ), K0.setRow_other _ (by omega), K1.setRow_other _ (by omega), K2.setRow _, K3.setRow_other _ (by omega), K4.setRow_other _ (by omega), K5.setRow_other _ (by omega), F0, F1, F2, F3, F6⟩
        · refine wpOp_of rfl rfl (wp_val_of (some 6) rfl (.int .i64 0) (by kernel_rfl) (hK _ _ ?_))
          exact ⟨x0, x1, x2, x3, _, rfl, HN, HZ, K0, K1, K2, K3, K4, K5, F0, F1, F2, F3, (fun _ => rfl)⟩
      · rintro L ac wr ⟨x0, x1, x2, x3, x6, rfl, HN, HZ, K0, K1, K2, K3, K4, K5, F0, F1, F2, F3, F6⟩ hall
        have hall' : ∀ i, i < 7 → L i = true := hall
        have e0 := F0 (hall' 0 (by decide))
        have e1 := F1 (hall' 1 (by decide))
        have e2 := F2 (hall' 2 (by decide))
        have e3 := F3 (hall' 3 (by decide))
        have e6 := F6 (hall' 6 (by decide))
        rw [if_pos (hall' 4 (by decide))] at K1
        rw [if_pos (hall' 5 (by decide))] at K2
        subst e0 e1 e2 e3 e6
        clear F0 F1 F2 F3 F6 hall hall'
        obtain ⟨q0, q1, q2, q3⟩ := K1.four
        obtain ⟨r0, r1, r2, r3⟩ := K2.four
        have NF := Lib.hid HN
        clear HN K0 K1 K2 K3 K4 K5 K00 K10 K20 K30 K40 K50 HK HN0 HZ
        go_wp2
        exact bodyPost_ret (v := .tuple #[.agg #[.int .u64 (lim QN 0 : Int), .int .u64 (lim QN 1 : Int), .int .u64 (lim QN 2 : Int), .int .u64 (lim QN 3 : Int)], .agg #[.int .u64 (lim RN 0 : Int), .int .u64 (lim RN 1 : Int), .int .u64 (lim RN 2 : Int), .int .u64 (lim RN 3 : Int)], .int .i64 0]) (by simp [results, Try.results33, go_sem, q0, q1, q2, q3, r0, r1, r2, r3]) rfl ⟨by rw [hQN.out, hRN.out], NF.out⟩
    · obtain ⟨j, rfl⟩ : ∃ j, k = j + 1 := ⟨k - 1, by omega⟩
      have ej : (((j + 1 : Nat) : Int) - 1) = (j : Int) := by omega
      rw [ej]
      clear ej
      have hj0 : (0 : Int) ≤ (j : Int) := by omega
      have hj1 : (j : Int) < 256 := by omega
      have HJ := Lib.hid (show j < 256 by omega)
      obtain ⟨hl1, hl2, hl3, hl4⟩ := long_step a b j HB0.out
      have HRL : Hid (a / 2 ^ (j + 1) % b < b) := Lib.hid (Nat.mod_lt _ HB0.out)
      have cxj := fun (w' : World) (h : Row w' gX (bcel (bitsL a)) 60) => h.cell (bcel_get (bitsL a) j (by rw [bitsL_length]; exact HJ.out))
      simp only [bitsL_get] at cxj
      replace cxj := Lib.hid cxj
      have HT2 : Hid (∀ TT, 2 * (a / 2 ^ (j + 1) % b) + (a.testBit j).toNat = TT → (TT < top ↔ (a / 2 ^ (j + 1) % b).testBit 255 = false)) := Lib.hid (by
        intro TT hTT
        have hRt : a / 2 ^ (j + 1) % b < 2 ^ 256 := by rw [← top_eq]; exact Nat.lt_trans HRL.out HBT.out
        have hx : (a.testBit j).toNat ≤ 1 := by cases a.testBit j <;> decide
        have hd := bit_mod (a / 2 ^ (j + 1) % b) 255
        have ht : top = 2 * 2 ^ 255 := by rw [top_eq]
        have hp : (2 : Nat) ^ 256 = 2 * 2 ^ 255 := by decide +kernel
        generalize a / 2 ^ (j + 1) % b = R at *
        have hdm := Nat.div_add_mod R (2 ^ 255)
        have hml := Nat.mod_lt R (show 0 < 2 ^ 255 by decide +kernel)
        have hql : R / 2 ^ 255 < 2 := by rw [Nat.div_lt_iff_lt_mul (by decide +kernel)]; omega
        generalize (2 : Nat) ^ 255 = P at *
        rcases hb : R.testBit 255 with _ | _
        · rw [hb] at hd
          simp only [Bool.toNat_false] at hd
          have : R / P = 0 := by
            generalize R / P = z at *
            omega
          rw [this] at hdm
          simp only [Nat.mul_zero, Nat.zero_add] at hdm
          simp only [iff_true]
          omega
        · rw [hb] at hd
          simp only [Bool.toNat_true] at hd
          have : R / P = 1 := by
            generalize R / P = z at *
            omega
          rw [this] at hdm
          simp only [Nat.mul_one] at hdm
          simp only [Bool.true_eq_false, iff_false]
          omega)
      have HL1 := Lib.hid hl1
      have HL2 := Lib.hid hl2
      have HL3 := Lib.hid hl3
      have HL4 := Lib.hid hl4
      clear hl1 hl2 hl3 hl4
      generalize hR : a / 2 ^ (j + 1) % b = R at *
      replace hR := Lib.hid hR
      generalize a.testBit j = x at *
      have HTD := Lib.hid (shf_end R x)
      have HT3 := Lib.hid (HT2.out _ rfl)
      clear HT2
      generalize 2 * R + x.toNat = TT at *
      obtain ⟨QQ, HQE⟩ : ∃ QQ, Hid (QQ = gen (hib (a / b) (j + 1))) := ⟨_, Lib.hid rfl⟩
      rw [← HQE.out] at HK
      have ctop := HK.out.rR.cell (bcel_get (bitsL R) 255 (by rw [bitsL_length]; decide))
      rw [bitsL_get] at ctop
      generalize R.testBit 255 = tp at *
      go_wp2
      obtain ⟨wo, rfl⟩ : ∃ wo : World, wo = wr := ⟨_, rfl⟩
      go_loopw [13] (fun i wr => ∃ m : Nat, m ≤ 255 ∧ i = .int .i64 m ∧ Hid (OvK w 24 60 gB g4 g5 gX gQ gR a b QQ (gen (shf R m)) wr)) (fun i _ => (intOf i).toNat)
      case atStart =>
        refine ⟨255, by omega, rfl, ?_⟩
        rw [shf_start]
        exact HK
      case round =>
        clear HK ctop
        obtain ⟨m, hm, rfl, HK⟩ := hrel
        by_cases hm0 : 0 < m
        · have hmi : (0 : Int) < (m : Int) := by omega
          have hmi2 : (m : Int) ≤ 255 := by omega
          have hms : (m : Int) - 1 = ((m - 1 : Nat) : Int) := by omega
          have hms2 : ((m - 1 : Nat) : Int) ≤ 254 := by omega
          have cm1 := HK.out.rR.cell (gen_get (shf R m) (m - 1) (by omega))
          have cm0 := HK.out.rR.cell (gen_get (shf R m) m (by omega))
          have fm := HK.out.rR.frozen
          have HSS := Lib.hid (shf_step R m hm0)
          have esh : shf R m (m - 1) = R.testBit (m - 1) := by unfold shf; rw [if_neg (by omega)]
          rw [esh] at cm1
          clear esh
          have HMM := Lib.hid (show m - 1 ≤ 255 ∧ m - 1 < m by omega)
          generalize R.testBit (m - 1) = z at *
          generalize shf R m m = z2 at *
          generalize m - 1 = m1 at *
          go_wp2
          go_roundw
          case rel =>
            refine ⟨m1, HMM.out.1, rfl, ?_⟩
            rw [← HSS.out]
            exact Lib.hid (HK.out.setR m _)
          case measure => have := HMM.out.2; simp [intOf]; omega
        · obtain rfl : m = 0 := by omega
          have c0 := HK.out.rR.cell (gen_get (shf R 0) 0 (by decide))
          have f0 := HK.out.rR.frozen
          have cx := cxj.out _ HK.out.rX
          go_wp2
          have HK2 := Lib.hid (HK.out.setR 0 x)
          rw [HTD.out] at HK2
          clear HK c0 f0 cx
          obtain ⟨W, hW⟩ : ∃ W, W = wr.setCell ⟨gR, 0, none⟩ (.bool x) := ⟨_, rfl⟩
          rw [← hW] at HK2 ⊢
          clear hW
          by_cases hge : b ≤ TT
          · by_cases htt : TT < top
            · have htp : tp = false := HT3.out.1 htt
              subst htp
              have GN := Lib.hid (fun w => refNumber_any TT w)
              have GL : Hid (∀ w, Calls Try.prog 22 #[.agg #[.int .u64 (lim TT 0 : Int), .int .u64 (lim TT 1 : Int), .int .u64 (lim TT 2 : Int), .int .u64 (lim TT 3 : Int)], .agg #[.int .u64 (lim b 0 : Int), .int .u64 (lim b 1 : Int), .int .u64 (lim b 2 : Int), .int .u64 (lim b 3 : Int)]] w fun e w' => e = .returned (.bool false) ∧ Nx w w') := Lib.hid (fun w => by
                have h := refLess_any TT b w htt HBT.out
                have e : subB TT b = false := by unfold subB; simp; omega
                rw [e] at h; exact h)
              have RR := HK2.out.rR
              have RB := HK2.out.rB
              have qr := Lib.hid (fun (w' : World) (hw : ∃ p : Regrown, w' = Sort.grow (redrawn W p.d) p.os) => show Row w' gR (bcel (bitsL TT)) 60 by obtain ⟨p, rfl⟩ := hw; exact Row.nx RR (below_regrown W p.d p.os))
              have hsr := Lib.hid (hsB (bitsL TT) (bitsL_length TT))
              have qb0 : ∀ d os, (Sort.grow (redrawn W d) os).cell? ⟨gB, 0, none⟩ = some (.int .u64 (lim b 0 : Int)) := fun d os => cell_regrown (RB.cell rfl) d os
              have qb1 : ∀ d os, (Sort.grow (redrawn W d) os).cell? ⟨gB, 1, none⟩ = some (.int .u64 (lim b 1 : Int)) := fun d os => cell_regrown (RB.cell rfl) d os
              have qb2 : ∀ d os, (Sort.grow (redrawn W d) os).cell? ⟨gB, 2, none⟩ = some (.int .u64 (lim b 2 : Int)) := fun d os => cell_regrown (RB.cell rfl) d os
              have qb3 : ∀ d os, (Sort.grow (redrawn W d) os).cell? ⟨gB, 3, none⟩ = some (.int .u64 (lim b 3 : Int)) := fun d os => cell_regrown (RB.cell rfl) d os
              clear RR RB
              go_wp2_with fail
              refine wp_region_quiet_below (by kernel_rfl) (by kernel_rfl) ?_
              repeat (first
                | (refine wpQuiet_step (fun K hK => ?_); rw [if_pos (by rfl)]; refine quiet_load 60 (.tmp 10) rfl gR rfl 60 (bcel (bitsL TT)) (0, 0) _ qr.out Try.underlying60 rfl hsr.out ?_; refine hK _ ?_; clear hK K)
                | quiet_step ((first
                  | (go_at_call 57; with_reducible exact Calls.regrown_of (GN.out _))
                  | (go_at_call 22; with_reducible exact Calls.regrown_of (GL.out _)))))
              refine wpQuiet_nil ?_
              intro _ hw'
              obtain ⟨⟨dq, osq⟩, hw''⟩ := hw'
              subst hw''
              have HK := Lib.hid (HK2.out.on (below_regrown W dq osq))
              clear HK2 qr hsr GN GL qb0 qb1 qb2 qb3
              generalize Sort.grow (redrawn W dq) osq = W2 at *

              have HTB := Lib.hid (show TT < 2 * b from HL4.out)
              have HSUB := Lib.hid (fun w => refSub_over TT b HBT.out HTB.out hge w)
              generalize hVV : subB (TT % top) b = VV at *
              replace hVV := Lib.hid hVV
              replace hge := Lib.hid hge
              have HN0 := Lib.hid HK.out.nx
              have K00 := HK.out.rB
              have K10 := HK.out.r4
              have K20 := HK.out.r5
              have K30 := HK.out.rX
              have K40 := HK.out.rQ
              have K50 := HK.out.rR
              have HW0 := HN0.out.size
              have HK0 := K00.lt
              have HK1 := K10.lt
              have HK2 := K20.lt
              have HK3 := K30.lt
              have HK4 := K40.lt
              have HK5 := K50.lt
              have HOR := Lib.hid (HK.out)
              go_wp2_with fail
              refine wp_region_inv [[], [0], [], [1, 2, 1], [3], [4], [4], [], [7, 5, 3, 0, 1, 2, 3, 4, 5, 7], [6, 8, 0, 1, 2, 3, 4, 5, 6, 7, 8]] (Over16 a b TT (TT - b) VV QQ gB g4 g5 gX gQ gR w W2 u58 u59 u60 u61 (Value.int IntKind.i64 ↑j) (Value.bool false) (Value.int IntKind.i64 0) (Value.agg #[Value.int IntKind.u64 ↑(lim b 0), Value.int IntKind.u64 ↑(lim b 1), Value.int IntKind.u64 ↑(lim b 2), Value.int IntKind.u64 ↑(lim b 3)]) (Value.agg #[Value.int IntKind.u64 0, Value.int IntKind.u64 0, Value.int IntKind.u64 0, Value.int IntKind.u64 0]) (Value.bool false) (undef) (undef) (Value.agg #[Value.int IntKind.u64 ↑(lim a 0), Value.int IntKind.u64 ↑(lim a 1), Value.int IntKind.u64 ↑(lim a 2), Value.int IntKind.u64 ↑(lim a 3)]) (Value.agg (bcel (bitsL a))) (Value.int IntKind.i64 ↑j) (Value.bool true) (u25) (u26) (Value.pointer (some { block := gR, off := 255 })) (Value.bool false) (Value.int IntKind.i64 0) (Value.bool false) (u31) (u32) (u33) (u34) (u35) (u36) (u37) (u38) (Value.int IntKind.i64 ↑j) (Value.pointer (some { block := gX, off := j })) (Value.bool x) (Value.pointer (some { block := gR, off := 0 })) (Value.bool false) (Value.bool false) (Value.agg (bcel (bitsL TT))) (Value.agg #[Value.int IntKind.u64 ↑(lim TT 0), Value.int IntKind.u64 ↑(lim TT 1), Value.int IntKind.u64 ↑(lim TT 2), Value.int IntKind.u64 ↑(lim TT 3)]) (Value.agg #[Value.int IntKind.u64 ↑(lim b 0), Value.int IntKind.u64 ↑(lim b 1), Value.int IntKind.u64 ↑(lim b 2), Value.int IntKind.u64 ↑(lim b 3)]) (Value.bool false) (Value.bool true) (Value.bool true)) (by kernel_rfl) (by kernel_rfl) (hord_of (by decide)) ?_ ?_ ?_
              · exact ⟨_, _, _, _, _, _, _, _, _, rfl, HN0.out.drew, Nat.le_refl _, K00.drew, K10.drew, K20.drew, K30.drew, K40.drew, K50.drew, (fun h => by cases h), (fun h => by cases h), (fun h => by cases h), (fun h => by cases h), (fun h => by cases h), (fun h => by cases h), (fun h => by cases h), (fun h => by cases h), (fun h => by cases h), (fun h => by cases h)⟩
              · rintro L ac wr ⟨x0, x1, x2, x3, x4, x5, x6, x7, x9, rfl, HN, HZ, K0, K1, K2, K3, K4, K5, F0, F1, F2, F3, F4, F5, F6, F7, F9, S8⟩ i hi hL hd K hK
                have hi' : i < 10 := hi
                have hcs : i = 0 ∨ i = 1 ∨ i = 2 ∨ i = 3 ∨ i = 4 ∨ i = 5 ∨ i = 6 ∨ i = 7 ∨ i = 8 ∨ i = 9 := by omega
                clear hi hi'
                rcases hcs with rfl | rfl | rfl | rfl | rfl | rfl | rfl | rfl | rfl | rfl
                · refine wpOp_of rfl rfl (wp_load_row 60 (.tmp 10) rfl gR rfl 60 (bcel (bitsL TT)) (0, 0) _ K5 Try.underlying60 rfl (hsB _ (bitsL_length _)) (hK _ _ ?_))
                  exact ⟨_, x1, x2, x3, x4, x5, x6, x7, x9, rfl, HN, HZ, K0, K1, K2, K3, K4, K5, (fun _ => rfl), F1, F2, F3, F4, F5, F6, F7, F9, S8⟩
                · have e0 := F0 (hd 0 (by decide))
                  subst e0
                  refine wpOp_of rfl rfl (wp_call_of (some 53) rfl 57 #[.agg (bcel (bitsL TT))] (by kernel_rfl) _ (refNumber_any TT wr) (fun w' hn => hK _ _ ?_))
                  exact ⟨_, _, x2, x3, x4, x5, x6, x7, x9, rfl, HN.trans hn, Nat.le_trans HZ hn.size, K0.nx hn, K1.nx hn, K2.nx hn, K3.nx hn, K4.nx hn, K5.nx hn, F0, (fun _ => rfl), F2, F3, F4, F5, F6, (fun h => by obtain ⟨g, e, hg, r⟩ := F7 h; exact ⟨g, e, hg, r.nx hn⟩), F9, S8⟩
                · refine wpOp_of rfl rfl (wp_load_row 24 (.tmp 3) rfl gB rfl 24 #[.int .u64 (lim b 0 : Int), .int .u64 (lim b 1 : Int), .int .u64 (lim b 2 : Int), .int .u64 (lim b 3 : Int)] (0, 0) _ K0 Try.underlying24 rfl (hsU b) (hK _ _ ?_))
                  exact ⟨x0, x1, _, x3, x4, x5, x6, x7, x9, rfl, HN, HZ, K0, K1, K2, K3, K4, K5, F0, F1, (fun _ => rfl), F3, F4, F5, F6, F7, F9, S8⟩
                · have e1 := F1 (hd 1 (by decide))
                  subst e1
                  have e2 := F2 (hd 2 (by decide))
                  subst e2
                  refine wpOp_of rfl rfl (wp_call_of (some 55) rfl 29 #[.agg #[.int .u64 (lim TT 0 : Int), .int .u64 (lim TT 1 : Int), .int .u64 (lim TT 2 : Int), .int .u64 (lim TT 3 : Int)], .agg #[.int .u64 (lim b 0 : Int), .int .u64 (lim b 1 : Int), .int .u64 (lim b 2 : Int), .int .u64 (lim b 3 : Int)]] (by kernel_rfl) _ (HSUB.out wr) (fun w' hn => hK _ _ ?_))
                  exact ⟨x0, _, _, _, x4, x5, x6, x7, x9, rfl, HN.trans hn, Nat.le_trans HZ hn.size, K0.nx hn, K1.nx hn, K2.nx hn, K3.nx hn, K4.nx hn, K5.nx hn, F0, F1, F2, (fun _ => rfl), F4, F5, F6, (fun h => by obtain ⟨g, e, hg, r⟩ := F7 h; exact ⟨g, e, hg, r.nx hn⟩), F9, S8⟩
                · have e3 := F3 (hd 3 (by decide))
                  subst e3
                  refine wpOp_of rfl rfl (wp_val_of (some 51) rfl (.tuple #[.agg #[.int .u64 (lim (TT - b) 0 : Int), .int .u64 (lim (TT - b) 1 : Int), .int .u64 (lim (TT - b) 2 : Int), .int .u64 (lim (TT - b) 3 : Int)], .bool VV]) (by kernel_rfl) (hK _ _ ?_))
                  exact ⟨x0, x1, x2, _, _, x5, x6, x7, x9, rfl, HN, HZ, K0, K1, K2, K3, K4, K5, F0, F1, F2, F3, (fun _ => rfl), F5, F6, F7, F9, S8⟩
                · have e4 := F4 (hd 4 (by decide))
                  subst e4
                  refine wpOp_of rfl rfl (wp_val_of (some 56) rfl (.agg #[.int .u64 (lim (TT - b) 0 : Int), .int .u64 (lim (TT - b) 1 : Int), .int .u64 (lim (TT - b) 2 : Int), .int .u64 (lim (TT - b) 3 : Int)]) (by kernel_rfl) (hK _ _ ?_))
                  exact ⟨x0, x1, x2, x3, _, _, x6, x7, x9, rfl, HN, HZ, K0, K1, K2, K3, K4, K5, F0, F1, F2, F3, F4, (fun _ => rfl), F6, F7, F9, S8⟩
                · have e4 := F4 (hd 4 (by decide))
                  subst e4
                  refine wpOp_of rfl rfl (wp_val_of (some 57) rfl (.bool VV) (by kernel_rfl) (hK _ _ ?_))
                  exact ⟨x0, x1, x2, x3, _, x5, _, x7, x9, rfl, HN, HZ, K0, K1, K2, K3, K4, K5, F0, F1, F2, F3, F4, F5, (fun _ => rfl), F7, F9, S8⟩
                · have hs : L 8 = false := by
                      rcases h : L 8 with _ | _
                      · rfl
                      · rw [S8 h] at hL; cases hL
                  refine wpOp_of rfl rfl (wp_alloc_of (some 14) rfl 24 rfl (#[.int .u64 0, .int .u64 0, .int .u64 0, .int .u64 0]) hzU (hK _ _ ?_))
                  exact ⟨x0, x1, x2, x3, x4, x5, x6, _, x9, rfl, HN.alloc _, Nat.le_trans HZ (by rw [alloc_size]; exact Nat.le_succ _), K0.alloc _, K1.alloc _, K2.alloc _, K3.alloc _, K4.alloc _, K5.alloc _, F0, F1, F2, F3, F4, F5, F6, (fun _ => ⟨_, rfl, HZ, by show Row _ _ (if L 8 = true then _ else _) _; rw [hs]; exact Row.new _ _ _ _ rfl⟩), F9, (fun _ => rfl)⟩
                · have e5 := F5 (hd 5 (by decide))
                  subst e5
                  obtain ⟨ga, ea, hga, ra⟩ := F7 (hd 7 (by decide))
                  subst ea
                  rw [if_neg (by rw [hL]; decide)] at ra
                  refine wpOp_of rfl rfl (wp_store_row 24 (.tmp 14) (.tmp 56) rfl ga (#[.int .u64 (lim (TT - b) 0 : Int), .int .u64 (lim (TT - b) 1 : Int), .int .u64 (lim (TT - b) 2 : Int), .int .u64 (lim (TT - b) 3 : Int)]) rfl rfl 24 (#[.int .u64 0, .int .u64 0, .int .u64 0, .int .u64 0]) ra (hsU (TT - b)) rfl (oneU (TT - b)) (hK _ _ ?_))
                  exact ⟨x0, x1, x2, x3, x4, _, x6, _, x9, rfl, HN.setRow _ (Nat.le_trans HW0 hga), (by rw [size_setRow]; exact HZ), K0.setRow_other _ (Nat.ne_of_lt (Nat.lt_of_lt_of_le HK0 hga)), K1.setRow_other _ (Nat.ne_of_lt (Nat.lt_of_lt_of_le HK1 hga)), K2.setRow_other _ (Nat.ne_of_lt (Nat.lt_of_lt_of_le HK2 hga)), K3.setRow_other _ (Nat.ne_of_lt (Nat.lt_of_lt_of_le HK3 hga)), K4.setRow_other _ (Nat.ne_of_lt (Nat.lt_of_lt_of_le HK4 hga)), K5.setRow_other _ (Nat.ne_of_lt (Nat.lt_of_lt_of_le HK5 hga)), F0, F1, F2, F3, F4, F5, F6, (fun _ => ⟨ga, rfl, hga, ra.setRow _⟩), F9, (fun _ => hd 7 (by decide))⟩
                · have e6 := F6 (hd 6 (by decide))
                  subst e6
                  refine wpOp_of rfl rfl (wp_val_of (some 15) rfl (.bool VV) (by kernel_rfl) (hK _ _ ?_))
                  exact ⟨x0, x1, x2, x3, x4, x5, _, x7, _, rfl, HN, HZ, K0, K1, K2, K3, K4, K5, F0, F1, F2, F3, F4, F5, F6, F7, (fun _ => rfl), S8⟩
              · rintro L ac wr ⟨x0, x1, x2, x3, x4, x5, x6, x7, x9, rfl, HN, HZ, K0, K1, K2, K3, K4, K5, F0, F1, F2, F3, F4, F5, F6, F7, F9, S8⟩ hall
                have hall' : ∀ i, i < 10 → L i = true := hall
                have e0 := F0 (hall' 0 (by decide))
                have e1 := F1 (hall' 1 (by decide))
                have e2 := F2 (hall' 2 (by decide))
                have e3 := F3 (hall' 3 (by decide))
                have e4 := F4 (hall' 4 (by decide))
                have e5 := F5 (hall' 5 (by decide))
                have e6 := F6 (hall' 6 (by decide))
                obtain ⟨g7, e7, hg7, r7⟩ := F7 (hall' 7 (by decide))
                have e9 := F9 (hall' 9 (by decide))
                rw [if_pos (hall' 8 (by decide))] at r7
                subst e0 e1 e2 e3 e4 e5 e6 e7 e9
                clear F0 F1 F2 F3 F4 F5 F6 F7 F9 S8 hall hall'
                have HKN := Lib.hid (show OvK w 24 60 gB g4 g5 gX gQ gR a b QQ (bitsL TT) wr from ⟨HN, K0, K1, K2, K3, K4, K5, HOR.out.o0, HOR.out.o1, HOR.out.o2, HOR.out.o3, HOR.out.o4, HOR.out.o5⟩)
                obtain ⟨d0, d1, d2, d3⟩ := r7.four
                clear HN K0 K1 K2 K3 K4 K5 K00 K10 K20 K30 K40 K50 HK HK0 HK1 HK2 HK3 HK4 HK5 HW0 HN0 hg7 r7 HSUB HZ
                go_wp2_with fail
                refine (refBits_any (TT - b) _).mono ?_
                rintro e w9 ⟨rfl, hb9⟩
                clear d0 d1 d2 d3
                replace HKN := Lib.hid (HKN.out.on hb9)
                have RR9 := HKN.out.rR
                have HS9 := Lib.hid (hsB (bitsL (TT - b)) (bitsL_length _))
                have HO9 : Hid ((bcel (bitsL TT)).size = (bcel (bitsL (TT - b))).size) := Lib.hid (by rw [bcel_size, bcel_size, bitsL_length, bitsL_length])
                have HKM := Lib.hid (HKN.out.rowR (bitsL (TT - b)))
                obtain ⟨vq, cq⟩ : ∃ v, (w9.setRow gR (bcel (bitsL (TT - b)))).cell? ⟨gQ, j, none⟩ = some v := ⟨_, HKM.out.rQ.cell (by rw [HQE.out]; exact gen_get _ j HJ.out)⟩
                have fq := HKM.out.rQ.frozen
                go_wp2_with (first | (refine wpList_store_row rfl 60 (.tmp 10) (.tmp 59) rfl gR (bcel (bitsL (TT - b))) rfl rfl 60 (bcel (bitsL TT)) RR9 HS9.out HO9.out (bcel_one _) ?_))
                go_roundw
                case rel =>
                  refine ⟨j, by have := HJ.out; omega, rfl, Lib.hid ?_⟩
                  have h := HKM.out.setQ j true
                  rw [HQE.out, hib_yes _ _ (by rw [HL1.out]; exact decide_eq_true hge.out)] at h
                  rw [HL2.out hge.out]
                  exact h
                case measure => simp [intOf]
            · have htp : tp = true := by
                rcases h : tp with _ | _
                · exact absurd (HT3.out.2 h) htt
                · rfl
              subst htp
              go_wp2_with fail
              go_quiet (fail)
              have HK := Lib.hid (HK2.out.on ((Nx.refl W).drewN nq))
              clear HK2
              generalize W.drewN nq = W2 at *
              have HTB := Lib.hid (show TT < 2 * b from HL4.out)
              have HSUB := Lib.hid (fun w => refSub_over TT b HBT.out HTB.out hge w)
              generalize hVV : subB (TT % top) b = VV at *
              replace hVV := Lib.hid hVV
              replace hge := Lib.hid hge
              have HN0 := Lib.hid HK.out.nx
              have K00 := HK.out.rB
              have K10 := HK.out.r4
              have K20 := HK.out.r5
              have K30 := HK.out.rX
              have K40 := HK.out.rQ
              have K50 := HK.out.rR
              have HW0 := HN0.out.size
              have HK0 := K00.lt
              have HK1 := K10.lt
              have HK2 := K20.lt
              have HK3 := K30.lt
              have HK4 := K40.lt
              have HK5 := K50.lt
              have HOR := Lib.hid (HK.out)
              go_wp2_with fail
              refine wp_region_inv [[], [0], [], [1, 2, 1], [3], [4], [4], [], [7, 5, 3, 0, 1, 2, 3, 4, 5, 7], [6, 8, 0, 1, 2, 3, 4, 5, 6, 7, 8]] (Over16 a b TT (TT - b) VV QQ gB g4 g5 gX gQ gR w W2 u58 u59 u60 u61 (Value.int IntKind.i64 ↑j) (Value.bool true) (Value.int IntKind.i64 0) (Value.agg #[Value.int IntKind.u64 ↑(lim b 0), Value.int IntKind.u64 ↑(lim b 1), Value.int IntKind.u64 ↑(lim b 2), Value.int IntKind.u64 ↑(lim b 3)]) (Value.agg #[Value.int IntKind.u64 0, Value.int IntKind.u64 0, Value.int IntKind.u64 0, Value.int IntKind.u64 0]) (Value.bool false) (undef) (undef) (Value.agg #[Value.int IntKind.u64 ↑(lim a 0), Value.int IntKind.u64 ↑(lim a 1), Value.int IntKind.u64 ↑(lim a 2), Value.int IntKind.u64 ↑(lim a 3)]) (Value.agg (bcel (bitsL a))) (Value.int IntKind.i64 ↑j) (Value.bool true) (u25) (u26) (Value.pointer (some { block := gR, off := 255 })) (Value.bool true) (Value.int IntKind.i64 0) (Value.bool false) (u31) (u32) (u33) (u34) (u35) (u36) (u37) (u38) (Value.int IntKind.i64 ↑j) (Value.pointer (some { block := gX, off := j })) (Value.bool x) (Value.pointer (some { block := gR, off := 0 })) (Value.bool true) (Value.bool true) (undef) (undef) (undef) (undef) (undef) (Value.bool true)) (by kernel_rfl) (by kernel_rfl) (hord_of (by decide)) ?_ ?_ ?_
              · exact ⟨_, _, _, _, _, _, _, _, _, rfl, HN0.out.drew, Nat.le_refl _, K00.drew, K10.drew, K20.drew, K30.drew, K40.drew, K50.drew, (fun h => by cases h), (fun h => by cases h), (fun h => by cases h), (fun h => by cases h), (fun h => by cases h), (fun h => by cases h), (fun h => by cases h), (fun h => by cases h), (fun h => by cases h), (fun h => by cases h)⟩
              · rintro L ac wr ⟨x0, x1, x2, x3, x4, x5, x6, x7, x9, rfl, HN, HZ, K0, K1, K2, K3, K4, K5, F0, F1, F2, F3, F4, F5, F6, F7, F9, S8⟩ i hi hL hd K hK
                have hi' : i < 10 := hi
                have hcs : i = 0 ∨ i = 1 ∨ i = 2 ∨ i = 3 ∨ i = 4 ∨ i = 5 ∨ i = 6 ∨ i = 7 ∨ i = 8 ∨ i = 9 := by omega
                clear hi hi'
                rcases hcs with rfl | rfl | rfl | rfl | rfl | rfl | rfl | rfl | rfl | rfl
                · refine wpOp_of rfl rfl (wp_load_row 60 (.tmp 10) rfl gR rfl 60 (bcel (bitsL TT)) (0, 0) _ K5 Try.underlying60 rfl (hsB _ (bitsL_length _)) (hK _ _ ?_))
                  exact ⟨_, x1, x2, x3, x4, x5, x6, x7, x9, rfl, HN, HZ, K0, K1, K2, K3, K4, K5, (fun _ => rfl), F1, F2, F3, F4, F5, F6, F7, F9, S8⟩
                · have e0 := F0 (hd 0 (by decide))
                  subst e0
                  refine wpOp_of rfl rfl (wp_call_of (some 53) rfl 57 #[.agg (bcel (bitsL TT))] (by kernel_rfl) _ (refNumber_any TT wr) (fun w' hn => hK _ _ ?_))
                  exact ⟨_, _, x2, x3, x4, x5, x6, x7, x9, rfl, HN.trans hn, Nat.le_trans HZ hn.size, K0.nx hn, K1.nx hn, K2.nx hn, K3.nx hn, K4.nx hn, K5.nx hn, F0, (fun _ => rfl), F2, F3, F4, F5, F6, (fun h => by obtain ⟨g, e, hg, r⟩ := F7 h; exact ⟨g, e, hg, r.nx hn⟩), F9, S8⟩
                · refine wpOp_of rfl rfl (wp_load_row 24 (.tmp 3) rfl gB rfl 24 #[.int .u64 (lim b 0 : Int), .int .u64 (lim b 1 : Int), .int .u64 (lim b 2 : Int), .int .u64 (lim b 3 : Int)] (0, 0) _ K0 Try.underlying24 rfl (hsU b) (hK _ _ ?_))
                  exact ⟨x0, x1, _, x3, x4, x5, x6, x7, x9, rfl, HN, HZ, K0, K1, K2, K3, K4, K5, F0, F1, (fun _ => rfl), F3, F4, F5, F6, F7, F9, S8⟩
                · have e1 := F1 (hd 1 (by decide))
                  subst e1
                  have e2 := F2 (hd 2 (by decide))
                  subst e2
                  refine wpOp_of rfl rfl (wp_call_of (some 55) rfl 29 #[.agg #[.int .u64 (lim TT 0 : Int), .int .u64 (lim TT 1 : Int), .int .u64 (lim TT 2 : Int), .int .u64 (lim TT 3 : Int)], .agg #[.int .u64 (lim b 0 : Int), .int .u64 (lim b 1 : Int), .int .u64 (lim b 2 : Int), .int .u64 (lim b 3 : Int)]] (by kernel_rfl) _ (HSUB.out wr) (fun w' hn => hK _ _ ?_))
                  exact ⟨x0, _, _, _, x4, x5, x6, x7, x9, rfl, HN.trans hn, Nat.le_trans HZ hn.size, K0.nx hn, K1.nx hn, K2.nx hn, K3.nx hn, K4.nx hn, K5.nx hn, F0, F1, F2, (fun _ => rfl), F4, F5, F6, (fun h => by obtain ⟨g, e, hg, r⟩ := F7 h; exact ⟨g, e, hg, r.nx hn⟩), F9, S8⟩
                · have e3 := F3 (hd 3 (by decide))
                  subst e3
                  refine wpOp_of rfl rfl (wp_val_of (some 51) rfl (.tuple #[.agg #[.int .u64 (lim (TT - b) 0 : Int), .int .u64 (lim (TT - b) 1 : Int), .int .u64 (lim (TT - b) 2 : Int), .int .u64 (lim (TT - b) 3 : Int)], .bool VV]) (by kernel_rfl) (hK _ _ ?_))
                  exact ⟨x0, x1, x2, _, _, x5, x6, x7, x9, rfl, HN, HZ, K0, K1, K2, K3, K4, K5, F0, F1, F2, F3, (fun _ => rfl), F5, F6, F7, F9, S8⟩
                · have e4 := F4 (hd 4 (by decide))
                  subst e4
                  refine wpOp_of rfl rfl (wp_val_of (some 56) rfl (.agg #[.int .u64 (lim (TT - b) 0 : Int), .int .u64 (lim (TT - b) 1 : Int), .int .u64 (lim (TT - b) 2 : Int), .int .u64 (lim (TT - b) 3 : Int)]) (by kernel_rfl) (hK _ _ ?_))
                  exact ⟨x0, x1, x2, x3, _, _, x6, x7, x9, rfl, HN, HZ, K0, K1, K2, K3, K4, K5, F0, F1, F2, F3, F4, (fun _ => rfl), F6, F7, F9, S8⟩
                · have e4 := F4 (hd 4 (by decide))
                  subst e4
                  refine wpOp_of rfl rfl (wp_val_of (some 57) rfl (.bool VV) (by kernel_rfl) (hK _ _ ?_))
                  exact ⟨x0, x1, x2, x3, _, x5, _, x7, x9, rfl, HN, HZ, K0, K1, K2, K3, K4, K5, F0, F1, F2, F3, F4, F5, (fun _ => rfl), F7, F9, S8⟩
                · have hs : L 8 = false := by
                      rcases h : L 8 with _ | _
                      · rfl
                      · rw [S8 h] at hL; cases hL
                  refine wpOp_of rfl rfl (wp_alloc_of (some 14) rfl 24 rfl (#[.int .u64 0, .int .u64 0, .int .u64 0, .int .u64 0]) hzU (hK _ _ ?_))
                  exact ⟨x0, x1, x2, x3, x4, x5, x6, _, x9, rfl, HN.alloc _, Nat.le_trans HZ (by rw [alloc_size]; exact Nat.le_succ _), K0.alloc _, K1.alloc _, K2.alloc _, K3.alloc _, K4.alloc _, K5.alloc _, F0, F1, F2, F3, F4, F5, F6, (fun _ => ⟨_, rfl, HZ, by show Row _ _ (if L 8 = true then _ else _) _; rw [hs]; exact Row.new _ _ _ _ rfl⟩), F9, (fun _ => rfl)⟩
                · have e5 := F5 (hd 5 (by decide))
                  subst e5
                  obtain ⟨ga, ea, hga, ra⟩ := F7 (hd 7 (by decide))
                  subst ea
                  rw [if_neg (by rw [hL]; decide)] at ra
                  refine wpOp_of rfl rfl (wp_store_row 24 (.tmp 14) (.tmp 56) rfl ga (#[.int .u64 (lim (TT - b) 0 : Int), .int .u64 (lim (TT - b) 1 : Int), .int .u64 (lim (TT - b) 2 : Int), .int .u64 (lim (TT - b) 3 : Int)]) rfl rfl 24 (#[.int .u64 0, .int .u64 0, .int .u64 0, .int .u64 0]) ra (hsU (TT - b)) rfl (oneU (TT - b)) (hK _ _ ?_))
                  exact ⟨x0, x1, x2, x3, x4, _, x6, _, x9, rfl, HN.setRow _ (Nat.le_trans HW0 hga), (by rw [size_setRow]; exact HZ), K0.setRow_other _ (Nat.ne_of_lt (Nat.lt_of_lt_of_le HK0 hga)), K1.setRow_other _ (Nat.ne_of_lt (Nat.lt_of_lt_of_le HK1 hga)), K2.setRow_other _ (Nat.ne_of_lt (Nat.lt_of_lt_of_le HK2 hga)), K3.setRow_other _ (Nat.ne_of_lt (Nat.lt_of_lt_of_le HK3 hga)), K4.setRow_other _ (Nat.ne_of_lt (Nat.lt_of_lt_of_le HK4 hga)), K5.setRow_other _ (Nat.ne_of_lt (Nat.lt_of_lt_of_le HK5 hga)), F0, F1, F2, F3, F4, F5, F6, (fun _ => ⟨ga, rfl, hga, ra.setRow _⟩), F9, (fun _ => hd 7 (by decide))⟩
                · have e6 := F6 (hd 6 (by decide))
                  subst e6
                  refine wpOp_of rfl rfl (wp_val_of (some 15) rfl (.bool VV) (by kernel_rfl) (hK _ _ ?_))
                  exact ⟨x0, x1, x2, x3, x4, x5, _, x7, _, rfl, HN, HZ, K0, K1, K2, K3, K4, K5, F0, F1, F2, F3, F4, F5, F6, F7, (fun _ => rfl), S8⟩
              · rintro L ac wr ⟨x0, x1, x2, x3, x4, x5, x6, x7, x9, rfl, HN, HZ, K0, K1, K2, K3, K4, K5, F0, F1, F2, F3, F4, F5, F6, F7, F9, S8⟩ hall
                have hall' : ∀ i, i < 10 → L i = true := hall
                have e0 := F0 (hall' 0 (by decide))
                have e1 := F1 (hall' 1 (by decide))
                have e2 := F2 (hall' 2 (by decide))
                have e3 := F3 (hall' 3 (by decide))
                have e4 := F4 (hall' 4 (by decide))
                have e5 := F5 (hall' 5 (by decide))
                have e6 := F6 (hall' 6 (by decide))
                obtain ⟨g7, e7, hg7, r7⟩ := F7 (hall' 7 (by decide))
                have e9 := F9 (hall' 9 (by decide))
                rw [if_pos (hall' 8 (by decide))] at r7
                subst e0 e1 e2 e3 e4 e5 e6 e7 e9
                clear F0 F1 F2 F3 F4 F5 F6 F7 F9 S8 hall hall'
                have HKN := Lib.hid (show OvK w 24 60 gB g4 g5 gX gQ gR a b QQ (bitsL TT) wr from ⟨HN, K0, K1, K2, K3, K4, K5, HOR.out.o0, HOR.out.o1, HOR.out.o2, HOR.out.o3, HOR.out.o4, HOR.out.o5⟩)
                obtain ⟨d0, d1, d2, d3⟩ := r7.four
                clear HN K0 K1 K2 K3 K4 K5 K00 K10 K20 K30 K40 K50 HK HK0 HK1 HK2 HK3 HK4 HK5 HW0 HN0 hg7 r7 HSUB HZ
                go_wp2_with fail
                refine (refBits_any (TT - b) _).mono ?_
                rintro e w9 ⟨rfl, hb9⟩
                clear d0 d1 d2 d3
                replace HKN := Lib.hid (HKN.out.on hb9)
                have RR9 := HKN.out.rR
                have HS9 := Lib.hid (hsB (bitsL (TT - b)) (bitsL_length _))
                have HO9 : Hid ((bcel (bitsL TT)).size = (bcel (bitsL (TT - b))).size) := Lib.hid (by rw [bcel_size, bcel_size, bitsL_length, bitsL_length])
                have HKM := Lib.hid (HKN.out.rowR (bitsL (TT - b)))
                obtain ⟨vq, cq⟩ : ∃ v, (w9.setRow gR (bcel (bitsL (TT - b)))).cell? ⟨gQ, j, none⟩ = some v := ⟨_, HKM.out.rQ.cell (by rw [HQE.out]; exact gen_get _ j HJ.out)⟩
                have fq := HKM.out.rQ.frozen
                go_wp2_with (first | (refine wpList_store_row rfl 60 (.tmp 10) (.tmp 59) rfl gR (bcel (bitsL (TT - b))) rfl rfl 60 (bcel (bitsL TT)) RR9 HS9.out HO9.out (bcel_one _) ?_))
                go_roundw
                case rel =>
                  refine ⟨j, by have := HJ.out; omega, rfl, Lib.hid ?_⟩
                  have h := HKM.out.setQ j true
                  rw [HQE.out, hib_yes _ _ (by rw [HL1.out]; exact decide_eq_true hge.out)] at h
                  rw [HL2.out hge.out]
                  exact h
                case measure => simp [intOf]
          · have htt : TT < top := Nat.lt_trans (Nat.lt_of_not_le hge) HBT.out
            have htp : tp = false := HT3.out.1 htt
            subst htp
            have GN := Lib.hid (fun w => refNumber_any TT w)
            have GL : Hid (∀ w, Calls Try.prog 22 #[.agg #[.int .u64 (lim TT 0 : Int), .int .u64 (lim TT 1 : Int), .int .u64 (lim TT 2 : Int), .int .u64 (lim TT 3 : Int)], .agg #[.int .u64 (lim b 0 : Int), .int .u64 (lim b 1 : Int), .int .u64 (lim b 2 : Int), .int .u64 (lim b 3 : Int)]] w fun e w' => e = .returned (.bool true) ∧ Nx w w') := Lib.hid (fun w => by
              have h := refLess_any TT b w htt HBT.out
              have e : subB TT b = true := by unfold subB; simp; omega
              rw [e] at h; exact h)
            replace hge := Lib.hid hge
            have RR := HK2.out.rR
            have RB := HK2.out.rB
            have qr := Lib.hid (fun (w' : World) (hw : ∃ p : Regrown, w' = Sort.grow (redrawn W p.d) p.os) => show Row w' gR (bcel (bitsL TT)) 60 by obtain ⟨p, rfl⟩ := hw; exact Row.nx RR (below_regrown W p.d p.os))
            have hsr := Lib.hid (hsB (bitsL TT) (bitsL_length TT))
            have qb0 : ∀ d os, (Sort.grow (redrawn W d) os).cell? ⟨gB, 0, none⟩ = some (.int .u64 (lim b 0 : Int)) := fun d os => cell_regrown (RB.cell rfl) d os
            have qb1 : ∀ d os, (Sort.grow (redrawn W d) os).cell? ⟨gB, 1, none⟩ = some (.int .u64 (lim b 1 : Int)) := fun d os => cell_regrown (RB.cell rfl) d os
            have qb2 : ∀ d os, (Sort.grow (redrawn W d) os).cell? ⟨gB, 2, none⟩ = some (.int .u64 (lim b 2 : Int)) := fun d os => cell_regrown (RB.cell rfl) d os
            have qb3 : ∀ d os, (Sort.grow (redrawn W d) os).cell? ⟨gB, 3, none⟩ = some (.int .u64 (lim b 3 : Int)) := fun d os => cell_regrown (RB.cell rfl) d os
            clear RR RB
            go_wp2_with fail
            refine wp_region_quiet_below (by kernel_rfl) (by kernel_rfl) ?_
            repeat (first
              | (refine wpQuiet_step (fun K hK => ?_); rw [if_pos (by rfl)]; refine quiet_load 60 (.tmp 10) rfl gR rfl 60 (bcel (bitsL TT)) (0, 0) _ qr.out Try.underlying60 rfl hsr.out ?_; refine hK _ ?_; clear hK K)
              | quiet_step ((first
                | (go_at_call 57; with_reducible exact Calls.regrown_of (GN.out _))
                | (go_at_call 22; with_reducible exact Calls.regrown_of (GL.out _)))))
            refine wpQuiet_nil ?_
            intro _ hw'
            obtain ⟨⟨dq, osq⟩, hw''⟩ := hw'
            subst hw''
            have HK := Lib.hid (HK2.out.on (below_regrown W dq osq))
            clear HK2 qr hsr GN GL qb0 qb1 qb2 qb3
            generalize Sort.grow (redrawn W dq) osq = W2 at *

            go_wp2
            go_roundw
            case rel =>
              refine ⟨j, by have := HJ.out; omega, rfl, Lib.hid ?_⟩
              have h := HK.out
              rw [HQE.out, hib_no _ _ (by rw [HL1.out]; exact decide_eq_false hge.out), ← HL3.out hge.out] at h
              exact h
            case measure => simp [intOf]
end Go.Proofs.Ytggemncdnclhnaa
