/- SLICES OF HASHES: read, made, stored into; of our own. -/
import Derived.Test.YtpkopigiijiiiaaDoorMerP
import Derived.Test.YtpkopigiijiiiaaDoorTk
import Derived.Test.YtpkopigiijiiiaaDoorTb
import Derived.Laws.CopyRow
import Derived.Laws.MakeOwn
namespace Go.Proofs.YtpkopigiijiiiaaDoor
open Go Go.RowKit
set_option linter.unusedVariables false
set_option linter.unusedSimpArgs false
set_option linter.unusedVariables false
set_option linter.unusedSimpArgs false

section
variable {P : Program}
/-- A place in a slice. -/
theorem run_ix (t e : TypeId) (ht : P.underlying t = some (.slice e)) (k : Nat) (hsz : ∀ w, (sizeOf e).run P w = .ok k w) (b o n c j : Nat) (z : Int) (hz : z = j) (hj : j < n) (w : World) :
    (Instr.indexAt t (.slice (some ⟨b, o, none⟩) n c) (.int .i64 z)).run P w = .ok (.pointer (some ⟨b, o + j * k, none⟩)) w := by
  subst hz
  have h1 : (j : Int) < (n : Int) := by omega
  simp [Instr.indexAt, asIntOf, run_underlying ht, hsz, h1, addr_add]
  intro h
  omega
theorem wp_ix_of {o : Oper} {a : Act} {w : World} {K : Act → World → Prop} {Q : Exit → Act → World → Prop} (dst : Option Tmp) (hd : o.dst = dst) (t e : TypeId) (x ix : Operand) (ho : o.op = .indexAddr t x ix)
    (ht : P.underlying t = some (.slice e)) (k : Nat) (hsz : ∀ w, (sizeOf e).run P w = .ok k w) (b q n c j : Nat) (z : Int) (hx : a.eval x = .slice (some ⟨b, q, none⟩) n c) (hi : a.eval ix = .int .i64 z) (hz : z = j) (hj : j < n)
    (h : K (a.put dst (.pointer (some ⟨b, q + j * k, none⟩))) w) : o.wp P a w K Q := by
  refine wp_val_of dst hd _ ?_ h
  unfold execOp
  simp only [ho, hx, hi]
  simp only [Sem.run_bind, run_ix t e ht k hsz b q n c j z hz hj w, Result.andThen_ok, Sem.run_pure]
/-- A store of several cells into the midst of a row. -/
theorem wp_store_part {o : Oper} {a : Act} {w : World} {K : Act → World → Prop} {Q : Exit → Act → World → Prop} (ty : TypeId) (x y : Operand) (ho : o.op = .store ty x y)
    (g k : Nat) (cells : Array Value) (hx : a.eval x = .pointer (some ⟨g, k, none⟩)) (hy : a.eval y = .agg cells)
    (t : TypeId) (old : Array Value) (hg : Row w g old t) (hi : (P.info? ty).map (·.size) = some cells.size)
    (hold : k + cells.size ≤ old.size) (h1 : cells.all (·.oneCell') = true)
    (h : K (a.put o.dst undef) (w.setRow g (old.toList.take k ++ cells.toList ++ old.toList.drop (k + cells.size)).toArray)) : o.wp P a w K Q := by
  have := run_storeCells_at (P := P) g k t cells.toList 0 old w hg (by simp; omega) (fun v hv => (Array.all_eq_true_iff_forall_mem.1 h1) v (by simpa using hv))
  cases hq : P.info? ty with
  | none => simp [hq] at hi
  | some i =>
    have hs : cells.size = i.size := by simp [hq] at hi; omega
    have hr : (storeVar ty ⟨g, k, none⟩ (.agg cells)).run P w = .ok () (w.setRow g (old.toList.take k ++ cells.toList ++ old.toList.drop (k + cells.size)).toArray) := by
      simp only [Nat.add_zero, Array.length_toList] at this
      simp [storeVar, sizeOf, typeInfo, hq, Value.cells, hs, this]
    unfold Oper.wp execOp
    simp only [ho, hx, hy, Instr.storeAt, Instr.sureAddr, Sem.run_bind, Sem.run_pure, Result.andThen_ok, hr]
    exact h
theorem wpList_store_part {ops : Array Oper} {rest : List Oper} {o : Oper} {a : Act} {w : World} {Q : Exit → Act → World → Prop} (hgd : o.guard = none) (ty : TypeId) (x y : Operand) (ho : o.op = .store ty x y)
    (g k : Nat) (cells : Array Value) (hx : a.eval x = .pointer (some ⟨g, k, none⟩)) (hy : a.eval y = .agg cells)
    (t : TypeId) (old : Array Value) (hg : Row w g old t) (hi : (P.info? ty).map (·.size) = some cells.size)
    (hold : k + cells.size ≤ old.size) (h1 : cells.all (·.oneCell') = true)
    (h : wpList P ops Q rest (a.put o.dst undef) (w.setRow g (old.toList.take k ++ cells.toList ++ old.toList.drop (k + cells.size)).toArray)) : wpList P ops Q (o :: rest) a w :=
  wpList_plain hgd fun _ hK => wp_store_part ty x y ho g k cells hx hy t old hg hi hold h1 (hK _ _ h)
end

/-- Hashes as cells. -/
def hfs (l : Hs) : List Value := l.flatMap bvs
theorem hfs_nil : hfs [] = [] := rfl
theorem hfs_cons (a : List UInt8) (l : Hs) : hfs (a :: l) = bvs a ++ hfs l := rfl
theorem hfs_append (a b : Hs) : hfs (a ++ b) = hfs a ++ hfs b := by simp [hfs]
theorem hfs_length : ∀ {l : Hs}, H32 l → (hfs l).length = l.length * 32
  | [], _ => rfl
  | a :: l, h => by
    rw [hfs_cons, List.length_append, bvs_length, h a (by simp), hfs_length (fun x hx => h x (by simp [hx])), List.length_cons]
    omega
theorem hfs_one (l : Hs) : ∀ u ∈ hfs l, u.oneCell' = true := by
  intro u hu
  simp only [hfs, List.mem_flatMap] at hu
  obtain ⟨a, _, hu⟩ := hu
  exact bvs_one a u hu
theorem hfs_cut : ∀ {l : Hs}, H32 l → ∀ (j : Nat) (h : j < l.length), ((hfs l).drop (j * 32)).take 32 = bvs l[j]
  | [], _, j, h => by simp at h
  | a :: l, hh, 0, h => by
    rw [hfs_cons, Nat.zero_mul, List.drop_zero, List.take_append_of_le_length (by rw [bvs_length, hh a (by simp)]; omega), List.take_of_length_le (by rw [bvs_length, hh a (by simp)]; omega)]
    rfl
  | a :: l, hh, j + 1, h => by
    have ih := hfs_cut (l := l) (fun x hx => hh x (by simp [hx])) j (by simpa using h)
    rw [hfs_cons, List.drop_append, List.drop_of_length_le (by rw [bvs_length, hh a (by simp)]; omega), List.nil_append, bvs_length, hh a (by simp), show (j + 1) * 32 - 32 = j * 32 by omega, ih]
    simp
theorem hfs_set : ∀ {l : Hs}, H32 l → ∀ (j : Nat) (h : j < l.length) (x : List UInt8), x.length = 32 → (hfs l).take (j * 32) ++ bvs x ++ (hfs l).drop (j * 32 + 32) = hfs (l.set j x)
  | [], _, j, h, _, _ => by simp at h
  | a :: l, hh, 0, h, x, hx => by
    have ha : (bvs a).length = 32 := by rw [bvs_length, hh a (by simp)]
    rw [hfs_cons, List.set_cons_zero, hfs_cons, Nat.zero_mul, List.take_zero, List.nil_append, Nat.zero_add, List.drop_append, List.drop_of_length_le (by omega), ha, Nat.sub_self, List.drop_zero, List.nil_append]
  | a :: l, hh, j + 1, h, x, hx => by
    have ha : (bvs a).length = 32 := by rw [bvs_length, hh a (by simp)]
    have ih := hfs_set (l := l) (fun x hx => hh x (by simp [hx])) j (by simpa using h) x hx
    rw [hfs_cons, List.set_cons_succ, hfs_cons, ← ih, List.take_append, List.take_of_length_le (by omega), List.drop_append, List.drop_of_length_le (by omega), ha, show (j + 1) * 32 - 32 = j * 32 by omega, show (j + 1) * 32 + 32 - 32 = j * 32 + 32 by omega]
    simp
theorem hfs_hcel {l : Hs} (h : H32 l) (j : Nat) (hj : j < l.length) (x : List UInt8) (hx : x.length = 32) :
    ((hfs l).toArray.toList.take (j * 32) ++ (hcel x).toList ++ (hfs l).toArray.toList.drop (j * 32 + (hcel x).size)).toArray = (hfs (l.set j x)).toArray := by
  rw [hcel_size, hx, ← hfs_set h j hj x hx]
  simp [hcel]

/-- Hashes, as elements. -/
def elH : El (List UInt8) where
  E := 23
  k := 32
  pos := by decide
  rd := fun _ _ cs a => a.length = 32 ∧ cs = bvs a
  len := by rintro s w cs a ⟨h1, rfl⟩; rw [bvs_length]; exact h1
  one := by rintro s w cs a ⟨h1, rfl⟩; exact bvs_one _
  nx := fun h _ => h
  grown := fun h _ => h
  free := fun h => h
  apart := fun h _ => h
theorem allE_hfs {l : Hs} (h : H32 l) (s : Option Nat) (w : World) : AllE elH s w (hfs l) l := ⟨hfs_length h, fun j hj => ⟨h.get hj, hfs_cut h j hj⟩⟩
theorem allE_is {l : Hs} {s : Option Nat} {w : World} {fs : List Value} (h : AllE elH s w fs l) : H32 l ∧ fs = hfs l := by
  have h32 : H32 l := fun x hx => by
    obtain ⟨j, hj, rfl⟩ := List.getElem_of_mem hx
    exact (h.2 j hj).1
  refine ⟨h32, ?_⟩
  have hl : fs.length = (hfs l).length := by rw [h.1, hfs_length h32]; rfl
  apply List.ext_getElem hl
  intro q h1 h2
  have hj : q / 32 < l.length := by have := hfs_length h32; omega
  have e1 := (h.2 _ hj).2
  have e2 := hfs_cut h32 _ hj
  have e3 : ((fs.drop (q / 32 * 32)).take 32)[q % 32]? = ((hfs l).drop (q / 32 * 32) |>.take 32)[q % 32]? := by rw [e2]; exact congrArg (·[q % 32]?) e1
  rw [List.getElem?_take_of_lt (Nat.mod_lt _ (by decide)), List.getElem?_take_of_lt (Nat.mod_lt _ (by decide)), List.getElem?_drop, List.getElem?_drop, show q / 32 * 32 + q % 32 = q by omega, List.getElem?_eq_getElem h1, List.getElem?_eq_getElem h2] at e3
  exact Option.some.inj e3
/-- What is known of a slice of hashes that is read. -/
theorem RdE.h_parts {w : World} {v : Value} {l : Hs} (h : RdE elH w v l) : ∃ A c, v = .slice A l.length c ∧ l.length ≤ c ∧ c ≤ maxLen ∧ H32 l ∧ (0 < l.length → ∃ b o, A = some ⟨b, o, none⟩ ∧ b < w.heap.size ∧ ∀ j (hj : j < l.length) i u, (hcel l[j])[i]? = some u → w.cell? ⟨b, o + j * 32 + i, none⟩ = some u) := by
  obtain ⟨A, c, fs, rfl, h1, h2, h3, h4⟩ := h.parts
  obtain ⟨h32, rfl⟩ := allE_is h3
  refine ⟨A, c, rfl, h1, h2, h32, fun hp => ?_⟩
  obtain ⟨b, o, rfl, hb, hc⟩ := h4 hp
  refine ⟨b, o, rfl, hb, fun j hj i u hu => ?_⟩
  have e := hfs_cut h32 j hj
  have hlen := hfs_length h32
  have hi : i < 32 := by
    have := h32.get hj
    rw [hcel, List.getElem?_toArray] at hu
    have := (List.getElem?_eq_some_iff.1 hu).1
    rw [bvs_length] at this
    omega
  have hq : j * 32 + i < (hfs l).length := by omega
  have := hc (j * 32 + i) hq
  rw [Nat.add_assoc, this]
  have e2 : (((hfs l).drop (j * 32)).take 32)[i]? = some u := by rw [e]; simpa [hcel] using hu
  rw [List.getElem?_take_of_lt hi, List.getElem?_drop, List.getElem?_eq_getElem hq] at e2
  exact e2
/-- A row of hashes that was made. -/
theorem OwnE.of_row {w : World} {g B : Nat} {l : Hs} {n : Nat} (h : Row w g (hfs l).toArray 23) (h32 : H32 l) (hB : B ≤ g) (hn : n = l.length) (hm : l.length ≤ maxLen) : OwnE elH B w (.slice (some ⟨g, 0, none⟩) n n) l := by
  subst hn
  exact ⟨hfs l, ⟨hfs_length h32, .inr ⟨g, l.length, hfs l, rfl, hB, h, hfs_length h32, Nat.le_refl _, hm, List.take_of_length_le (by rw [hfs_length h32]; exact Nat.le_refl _)⟩⟩, allE_hfs h32 _ w⟩
theorem RdE.one_h (w : World) (x : List UInt8) (hx : x.length = 32) : RdF 32 (w.alloc (.cells (hcel x) 23)) (.slice (some ⟨w.heap.size, 0, none⟩) 1 1) 1 (hfs [x]) := by
  have h32 : H32 [x] := H32.one hx
  refine ⟨hfs_length h32, hfs_one _, some ⟨w.heap.size, 0, none⟩, 1, rfl, Nat.le_refl _, by decide, fun _ => ⟨w.heap.size, 0, rfl, by simp, fun j hj => ?_⟩⟩
  rw [Nat.zero_add]
  refine (Row.new w (hcel x) 23 _ rfl).cell ?_
  simp only [hfs, List.flatMap_cons, List.flatMap_nil, List.append_nil, hcel, List.getElem?_toArray]
  exact List.getElem?_eq_getElem _
theorem info_hash3 : (Tryd.prog.info? 23).map (fun i => (i.zero, i.size, i.bytes)) = some (some (.agg (hcel (List.replicate 32 0))), 32, 32) := by kernel_rfl
theorem bvs_rep (m i : Nat) (h : i < m) : (bvs (List.replicate m 0))[i]? = some (bv 0) := by simp [bvs, h]
theorem hcel_rep (m i : Nat) (h : i < m) : (hcel (List.replicate m 0))[i]! = bv 0 := by
  have : (hcel (List.replicate m 0))[i]? = some (bv 0) := by rw [hcel, List.getElem?_toArray]; exact bvs_rep m i h
  rw [Array.getElem!_eq_getD, Array.getD_eq_getD_getElem?, this]; rfl
theorem made_get (z : Array Value) (n i : Nat) (h : i < (madeCells z n).size) : (madeCells z n)[i] = z[i % z.size]! := by simp [madeCells]
theorem made_h (n : Nat) : madeCells (hcel (List.replicate 32 0)) (n * 32) = (hfs (List.replicate n (List.replicate 32 0))).toArray := by
  have h32 : H32 (List.replicate n (List.replicate 32 0)) := fun x hx => by rw [List.eq_of_mem_replicate hx]; exact List.length_replicate
  apply Array.ext
  · simp only [madeCells, List.size_toArray, hfs_length h32]; simp
  · intro i h1 h2
    have hi : i < n * 32 := by simpa [madeCells] using h1
    have hj : i / 32 < (List.replicate n (List.replicate 32 (0 : UInt8))).length := by simp; omega
    have e2 := hfs_cut h32 _ hj
    have hlen := hfs_length h32
    have e3 : (((hfs (List.replicate n (List.replicate 32 (0 : UInt8)))).drop (i / 32 * 32)).take 32)[i % 32]? = (bvs (List.replicate 32 0))[i % 32]? := by rw [e2]; simp
    have hq : i < (hfs (List.replicate n (List.replicate 32 (0 : UInt8)))).length := by simpa using h2
    rw [List.getElem?_take_of_lt (Nat.mod_lt _ (by decide)), List.getElem?_drop, show i / 32 * 32 + i % 32 = i by omega, List.getElem?_eq_getElem hq] at e3
    have e4 : (hfs (List.replicate n (List.replicate 32 (0 : UInt8)))).toArray[i] = bv 0 := by
      rw [bvs_rep 32 _ (Nat.mod_lt _ (by decide))] at e3
      have := Option.some.inj e3
      simpa using this
    rw [e4]
    have hm := hcel_rep 32 (i % 32) (Nat.mod_lt i (by decide))
    have hs : (hcel (List.replicate 32 (0 : UInt8))).size = 32 := by rw [hcel_size, List.length_replicate]
    generalize hcel (List.replicate 32 (0 : UInt8)) = Z at *
    rw [made_get, hs]
    exact hm
def hZ : List UInt8 := List.replicate 32 0
theorem hZ_length : hZ.length = 32 := List.length_replicate
def hzs (n : Nat) : Hs := List.replicate n hZ
theorem hzs_length (n : Nat) : (hzs n).length = n := List.length_replicate
theorem hzs_32 (n : Nat) : H32 (hzs n) := fun x hx => by rw [List.eq_of_mem_replicate hx]; exact hZ_length
theorem hzs_succ (n : Nat) : hzs (n + 1) = hZ :: hzs n := rfl
theorem run_mkh (n : Nat) (hn : n ≤ 1000000) (w : World) : (Instr.makeSlice 32 (.int .i64 (n : Int)) (.int .i64 (n : Int))).run Tryd.prog w = .ok (.slice (some ⟨w.heap.size, 0, none⟩) n n) (w.alloc (.cells (hfs (hzs n)).toArray 23)) := by
  obtain ⟨i, hi0, hz, hsz, hby⟩ : ∃ i, Tryd.prog.info? 23 = some i ∧ i.zero = some (.agg (hcel (List.replicate 32 0))) ∧ i.size = 32 ∧ i.bytes = 32 := by
    have hi := info_hash3
    rcases hq : Tryd.prog.info? 23 with _ | i
    · rw [hq] at hi; cases hi
    · rw [hq] at hi
      simp only [Option.map_some, Option.some.injEq, Prod.mk.injEq] at hi
      exact ⟨i, rfl, hi.1, hi.2.1, hi.2.2⟩
  have := run_make (P := Tryd.prog) w 32 23 i _ Tryd.underlying32 hi0 hz .i64 .i64 (n : Int) (n : Int) (by omega) (by omega) (by rw [hby]; omega) (by omega)
  rw [hsz, Int.toNat_natCast, show (Value.agg (hcel (List.replicate 32 0))).cells = hcel (List.replicate 32 0) from rfl, made_h] at this
  exact this
end Go.Proofs.YtpkopigiijiiiaaDoor
