/- TEXTS OF OUR OWN, IN ONE FILE. -/
import Derived.WalkKit
import Derived.ProofKit
import Derived.OpenShut
import Derived.Below
import Derived.Laws.OwnMore
import Derived.Laws.AppendOwn
import Derived.Deep.AppendLies
import Derived.Deep.Draws
import Derived.Maps.AppendAt
import Derived.Lib.Hide
import Derived.OwnWalk
import Derived.Laws.CopyOwn
import Derived.Laws.MakeOwn
import Derived.ChangeOld
import Derived.ShutString
import Derived.SizedLaws
import Derived.Test.YtpkopigiijiiiaaDoorRows
import Derived.LoopTactic
import Derived.Outline
import Derived.Deep.QuietTactic
import Derived.BigQuiet
import Derived.IntWalk
import Derived.Laws.BitsAllLaws
import Derived.WalkLawsBesides
import Derived.Deep.RegionHeld3
import Derived.Laws.Rows
import Derived.Laws.Tables
import Derived.Laws.StructEq
import Derived.Lib.QuietBelow
section
namespace Go.Proofs.YtpkopigiijiiiaaDoor
open Go.RowKit

/-- A byte as the model holds it. -/
abbrev bv (x : UInt8) : Value := .int .u8 (x.toNat : Int)
def bvs (l : List UInt8) : List Value := l.map bv

@[simp] theorem bvs_length (l : List UInt8) : (bvs l).length = l.length := by simp [bvs]
theorem bvs_append (l r : List UInt8) : bvs (l ++ r) = bvs l ++ bvs r := by simp [bvs]
theorem bvs_one (l : List UInt8) : ∀ u ∈ bvs l, u.oneCell' = true := by
  intro u hu
  simp only [bvs, List.mem_map] at hu
  obtain ⟨x, _, rfl⟩ := hu
  rfl

theorem bvs_get {m : List UInt8} {j : Nat} {u : Value} (h : (bvs m)[j]? = some u) : ∃ hj : j < m.length, u = bv m[j] := by
  simp only [bvs, List.getElem?_map, Option.map_eq_some_iff] at h
  obtain ⟨x, hx, rfl⟩ := h
  obtain ⟨hj, hv⟩ := List.getElem?_eq_some_iff.1 hx
  exact ⟨hj, by rw [hv]⟩

/-- The next world: what was there stands as it stood. -/
def Nx (w w' : World) : Prop := Below w.heap.size w w'
theorem Nx.refl (w : World) : Nx w w := Below.refl _ _
theorem Nx.trans {a b c : World} (h : Nx a b) (k : Nx b c) : Nx a c := Below.trans h (k.mono h.size)
theorem Nx.drew {a b : World} (h : Nx a b) : Nx a b.drew := Below.drew h
theorem Nx.drewN {a b : World} (h : Nx a b) (n : Nat) : Nx a (b.drewN n) := ⟨h.os, h.tape, h.output, h.size, h.block⟩
theorem Nx.alloc {a b : World} (h : Nx a b) (o : Obj) : Nx a (b.alloc o) := Below.alloc h h.size o
theorem Nx.size {a b : World} (h : Nx a b) : a.heap.size ≤ b.heap.size := Below.size h
theorem Nx.cell {a b : World} (h : Nx a b) {p : Addr} (hp : p.block < a.heap.size) : b.cell? p = a.cell? p := Below.cell h hp
theorem Nx.frozen {a b : World} (h : Nx a b) {p : Addr} (hp : p.block < a.heap.size) : b.frozen? p = a.frozen? p := Below.frozen h hp
theorem Nx.grown {a b c : World} {row : Option Nat} (h : Nx a b) (hg : b.grownBy c row) (hr : ∀ k, row = some k → a.heap.size ≤ k) : Nx a c := Below.grown h hg h.size hr

theorem Nx.app {a b c : World} (h : Nx a b) (k : Below a.heap.size b c) : Nx a c := Below.trans h k
theorem addr_add (b o i : Nat) : (Addr.add ⟨b, o, none⟩ i : Addr) = ⟨b, o + i, none⟩ := by unfold Addr.add; split <;> simp_all

/-- At the address A there stand the bytes l, one a cell. -/
def At (w : World) (A : Option Addr) (l : List UInt8) : Prop :=
  0 < l.length → ∃ b o, A = some ⟨b, o, none⟩ ∧ b < w.heap.size ∧ ∀ j (h : j < l.length), w.cell? ⟨b, o + j, none⟩ = some (bv l[j])

/-- The slice value v reads as the bytes l. -/
def Rd (w : World) (v : Value) (l : List UInt8) : Prop :=
  ∃ A c, v = .slice A l.length c ∧ l.length ≤ c ∧ c ≤ maxLen ∧ At w A l

theorem At.nx {w w' : World} {A : Option Addr} {l : List UInt8} (h : At w A l) (k : Nx w w') : At w' A l := fun hl => by
  obtain ⟨b, o, rfl, hb, hc⟩ := h hl
  exact ⟨b, o, rfl, Nat.lt_of_lt_of_le hb k.size, fun j hj => (k.cell (p := ⟨b, o + j, none⟩) hb).trans (hc j hj)⟩
theorem Rd.nx {w w' : World} {v : Value} {l : List UInt8} (h : Rd w v l) (k : Nx w w') : Rd w' v l := by
  obtain ⟨A, c, rfl, h1, h2, h3⟩ := h
  exact ⟨A, c, rfl, h1, h2, h3.nx k⟩
theorem Rd.drewN {w : World} {v : Value} {l : List UInt8} (h : Rd w v l) (n : Nat) : Rd (w.drewN n) v l := h.nx ((Nx.refl w).drewN n)
theorem Rd.drew {w : World} {v : Value} {l : List UInt8} (h : Rd w v l) : Rd w.drew v l := h.nx (Nx.refl w).drew
theorem Rd.alloc {w : World} {v : Value} {l : List UInt8} (h : Rd w v l) (o : Obj) : Rd (w.alloc o) v l := h.nx ((Nx.refl w).alloc o)

/-- The row's own words, as a list of bytes. -/
theorem At.of_cells {w : World} {b o : Nat} {l : List UInt8} (hb : b < w.heap.size) (h : ∀ j (h : j < l.length), w.cell? ⟨b, o + j, none⟩ = some (bv l[j])) : At w (some ⟨b, o, none⟩) l :=
  fun _ => ⟨b, o, rfl, hb, h⟩
theorem At.nil (w : World) (A : Option Addr) : At w A [] := fun h => absurd h (by simp)
theorem Rd.nil (w : World) : Rd w (.slice none 0 0) [] := ⟨none, 0, rfl, by simp, by simp [maxLen], At.nil _ _⟩

/-- A row of the call's own, from block B on, that holds the bytes l (and bytes alone behind them); or nil. -/
def Own (B : Nat) (w : World) (v : Value) (l : List UInt8) : Prop :=
  (v = .slice none 0 0 ∧ l = []) ∨
  ∃ (g : Nat) (full : List UInt8), v = .slice (some ⟨g, 0, none⟩) l.length full.length ∧ B ≤ g ∧ w.heap[g]? = some (.cells (bvs full).toArray 5 (0, 0)) ∧ l.length ≤ full.length ∧ full.length ≤ maxLen ∧ full.take l.length = l

theorem at_of_block {w : World} {g : Nat} {full : List UInt8} {n : Nat} (hh : w.heap[g]? = some (.cells (bvs full).toArray 5 (0, 0))) (_hn : n ≤ full.length) : At w (some ⟨g, 0, none⟩) (full.take n) := by
  have hlt : g < w.heap.size := (Array.getElem?_eq_some_iff.1 hh).1
  refine At.of_cells hlt fun j hj => ?_
  have hj' : j < full.length := by simp at hj; omega
  have hc : w.cell? ⟨g, 0 + j, none⟩ = (bvs full).toArray[0 + j]? := cell_of_row w g (0 + j) _ _ (0, 0) hh
  rw [hc, Nat.zero_add]
  simp [bvs, hj']

theorem Own.rd {B : Nat} {w : World} {v : Value} {l : List UInt8} (h : Own B w v l) : Rd w v l := by
  rcases h with ⟨rfl, rfl⟩ | ⟨g, full, rfl, hg, hh, hn, hm, ht⟩
  · exact Rd.nil w
  · have := at_of_block hh hn
    rw [ht] at this
    exact ⟨some ⟨g, 0, none⟩, full.length, rfl, hn, hm, this⟩

theorem Own.nx {B : Nat} {w w' : World} {v : Value} {l : List UInt8} (h : Own B w v l) (k : Nx w w') : Own B w' v l := by
  rcases h with h2 | ⟨g, full, rfl, hb, hg, rest⟩
  · exact .inl h2
  · exact .inr ⟨g, full, rfl, hb, by rw [k.block g (Array.getElem?_eq_some_iff.1 hg).1]; exact hg, rest⟩
theorem Own.drewN {B : Nat} {w : World} {v : Value} {l : List UInt8} (h : Own B w v l) (n : Nat) : Own B (w.drewN n) v l := h.nx ((Nx.refl w).drewN n)
theorem Own.drew {B : Nat} {w : World} {v : Value} {l : List UInt8} (h : Own B w v l) : Own B w.drew v l := h.nx (Nx.refl w).drew
theorem Own.alloc {B : Nat} {w : World} {v : Value} {l : List UInt8} (h : Own B w v l) (o : Obj) : Own B (w.alloc o) v l := h.nx ((Nx.refl w).alloc o)
theorem Own.mono {B B' : Nat} {w : World} {v : Value} {l : List UInt8} (h : Own B w v l) (hB : B' ≤ B) : Own B' w v l := by
  rcases h with h2 | ⟨g, full, rfl, hb, rest⟩
  · exact .inl h2
  · exact .inr ⟨g, full, rfl, Nat.le_trans hB hb, rest⟩
theorem Own.nil (B : Nat) (w : World) : Own B w (.slice none 0 0) [] := .inl ⟨rfl, rfl⟩
theorem Own.block {B : Nat} {w : World} {v : Value} {l : List UInt8} (h : Own B w v l) : ∀ k, v.ownBlock = some k → B ≤ k := by
  intro k hk
  rcases h with ⟨rfl, _⟩ | ⟨g, full, rfl, hb, _⟩
  · simp [Value.ownBlock] at hk
  · simp [Value.ownBlock] at hk
    omega

/-- One byte, newly laid. -/
theorem Rd.one (w : World) (z : Int) (x : UInt8) (t : TypeId) (h : z = (x.toNat : Int)) : Rd (w.alloc (.cells #[.int .u8 z] t)) (.slice (some ⟨w.heap.size, 0, none⟩) 1 1) [x] := by
  subst h
  refine ⟨some ⟨w.heap.size, 0, none⟩, 1, rfl, by simp, by simp [maxLen], At.of_cells (by simp) fun j hj => ?_⟩
  have hj0 : j = 0 := by simp at hj; omega
  subst hj0
  rw [World.cell?_alloc_at _ _ _ _ rfl]
  rfl

/-- A cut of a slice that reads. -/
theorem At.cut {w : World} {A : Option Addr} {l : List UInt8} (h : At w A l) {i j : Nat} (hij : i ≤ j) (hj : j ≤ l.length) {A' : Option Addr}
    (hA : ∀ b o, A = some ⟨b, o, none⟩ → i < j → A' = some ⟨b, o + i, none⟩) : At w A' ((l.drop i).take (j - i)) := fun hl => by
  simp only [List.length_take, List.length_drop] at hl
  obtain ⟨b, o, rfl, hb, hc⟩ := h (by omega)
  refine ⟨b, o + i, hA b o rfl (by omega), hb, fun k hk => ?_⟩
  simp only [List.length_take, List.length_drop] at hk
  have := hc (i + k) (by omega)
  rw [← Nat.add_assoc] at this
  rw [this]
  simp
theorem Rd.cut {w : World} {A : Option Addr} {c : Nat} {l : List UInt8} (h : At w A l) {i m : Nat} (hi : i + m ≤ l.length) (hm : m ≤ c) (hc : c ≤ maxLen) : Rd w (.slice (A.map (·.add i)) m c) ((l.drop i).take m) := by
  have hl : ((l.drop i).take m).length = m := by simp; omega
  refine ⟨A.map (·.add i), c, by rw [hl], by rw [hl]; exact hm, hc, ?_⟩
  have := h.cut (i := i) (j := i + m) (by omega) hi (A' := A.map (·.add i)) (fun b o hA _ => by subst hA; simp [addr_add])
  rwa [Nat.add_sub_cancel_left] at this
theorem Rd.pre {w : World} {A : Option Addr} {c : Nat} {l : List UInt8} (h : At w A l) {m : Nat} (hi : m ≤ l.length) (hm : m ≤ c) (hc : c ≤ maxLen) : Rd w (.slice A m c) (l.take m) := by
  have hl : (l.take m).length = m := by simp; omega
  refine ⟨A, c, by rw [hl], by rw [hl]; exact hm, hc, ?_⟩
  have := h.cut (i := 0) (j := m) (by omega) hi (A' := A) (fun b o hA _ => by subst hA; simp)
  simpa using this
theorem Rd.none0 (w : World) (A : Option Addr) (c : Nat) (hc : c ≤ maxLen) : Rd w (.slice A 0 c) [] := ⟨A, c, rfl, by simp, hc, At.nil _ _⟩

/-! ### append of bytes onto a row of the call's own -/
section
variable {P : Program}

/-- A new row: what a literal of bytes lays. -/
theorem Own.new (w : World) (l : List UInt8) (h : l.length ≤ maxLen) : Own w.heap.size (w.alloc (.cells (bvs l).toArray 5)) (.slice (some ⟨w.heap.size, 0, none⟩) l.length l.length) l :=
  .inr ⟨w.heap.size, l, rfl, Nat.le_refl _, heap_alloc_new w _, Nat.le_refl _, h, List.take_of_length_le (Nat.le_refl _)⟩

theorem Own.one (w : World) (z : Int) (x : UInt8) (h : z = (x.toNat : Int)) : Own w.heap.size (w.alloc (.cells #[.int .u8 z] 5)) (.slice (some ⟨w.heap.size, 0, none⟩) 1 1) [x] := by
  subst h
  exact Own.new w [x] (by simp [maxLen])

/-- A literal of bytes, newly laid. -/
theorem Rd.lit (w : World) (l : List UInt8) (cs : Array Value) (n g : Nat) (h : cs = (bvs l).toArray) (hn : n = l.length) (hm : l.length ≤ 1000) (hg : w.heap.size = g) : Rd (w.alloc (.cells cs 5)) (.slice (some ⟨g, 0, none⟩) n n) l := by
  subst h
  subst hg
  subst hn
  exact (Own.new w l (by simp only [maxLen]; omega)).rd

theorem Own.below {B : Nat} {w w' : World} {v : Value} {l : List UInt8} (hB : B ≤ w.heap.size) (hown : Own B w v l) (hg : w.grownBy w' v.ownBlock) : Below B w w' :=
  Below.grown (Below.refl _ _) hg hB hown.block

theorem zeroCells_bvs (k : Nat) : Builtin.zeroCells (Value.int .u8 0).cells k = (bvs (List.replicate k 0)).toArray := by
  apply Array.ext
  · simp [Builtin.zeroCells, Value.cells]
  · intro i h1 h2
    simp [Builtin.zeroCells, Value.cells, bvs, Nat.mod_one]

theorem app_run (w : World) (t ty : TypeId) (i : TypeInfo) (ht : P.underlying t = some (.slice 5)) (hi : P.info? 5 = some i) (hz : i.zero = some (.int .u8 0)) (hsize : i.size = 1) (hby : i.bytes = 1)
    (B : Nat) (v vx : Value) (l m : List UInt8) (hown : Own B w v l) (hr : Rd w vx m) (hlen : l.length + m.length ≤ 140737488355328) (hB : B ≤ w.heap.size) :
    ∃ v' w', (Builtin.append_ #[t, t] ty #[v, vx]).run P w = .ok v' w' ∧ Own B w' v' (l ++ m) ∧ w.grownBy w' v.ownBlock ∧ (v'.ownBlock = v.ownBlock ∨ v'.ownBlock = some w.heap.size) := by
  obtain ⟨A, c, rfl, hc, hm, ha⟩ := hr
  have hmx : l.length + m.length ≤ maxLen := by simp only [maxLen]; omega
  rcases A with _ | ad
  · have h0 : m.length = 0 := by
      rcases Nat.eq_zero_or_pos m.length with h | h
      · exact h
      · obtain ⟨b, o, h', _⟩ := ha h; cases h'
    obtain rfl : m = [] := List.eq_nil_of_length_eq_zero h0
    refine ⟨v, w, ?_, by simpa using hown, World.grownBy.refl w _, .inl rfl⟩
    rcases hown with ⟨rfl, rfl⟩ | ⟨g, full, rfl, _, _, hnc, _⟩
    · simp [Builtin.append_, run_underlying ht, sizeOf, typeInfo, hi, Builtin.lenOf, Builtin.firstCells]
    · simp [Builtin.append_, run_underlying ht, sizeOf, typeInfo, hi, Builtin.lenOf, Builtin.firstCells, hnc, storeCells]
  · have hnews : ∀ j u, (bvs m)[j]? = some u → w.cell? (ad.add j) = some u := fun j u hu => by
      obtain ⟨hj, rfl⟩ := bvs_get hu
      obtain ⟨b, o, he, hb, hcell⟩ := ha (by omega)
      obtain rfl : ad = ⟨b, o, none⟩ := by injection he
      rw [addr_add, hcell j hj]
    have grown : ∀ (old : Nat) (row : Option Nat), Own B (w.drew.alloc (.cells ((bvs l).toArray ++ (bvs m).toArray ++ Builtin.zeroCells (Value.int .u8 0).cells (grownCap w (l.length + m.length) old 5 - (l.length + m.length))) 5))
        (.slice (some ⟨w.heap.size, 0, none⟩) (l.length + m.length) (grownCap w (l.length + m.length) old 5)) (l ++ m) ∧
        w.grownBy (w.drew.alloc (.cells ((bvs l).toArray ++ (bvs m).toArray ++ Builtin.zeroCells (Value.int .u8 0).cells (grownCap w (l.length + m.length) old 5 - (l.length + m.length))) 5)) row := by
      intro old row
      have hge := grownCap_ge w (l.length + m.length) old 5
      have hcm := grownCap_le_maxLen w (l.length + m.length) old 5 hmx
      generalize grownCap w (l.length + m.length) old 5 = cp at *
      have hfl : (l ++ m ++ List.replicate (cp - (l.length + m.length)) (0 : UInt8)).length = cp := by simp; omega
      refine ⟨.inr ⟨w.heap.size, l ++ m ++ List.replicate (cp - (l.length + m.length)) 0, by rw [hfl, List.length_append], hB, ?_, by rw [hfl, List.length_append]; exact hge, by rw [hfl]; exact hcm, List.take_left⟩,
        ⟨rfl, rfl, rfl, by simp, fun k hk _ => heap_alloc_old _ _ hk⟩⟩
      rw [zeroCells_bvs]
      have := heap_alloc_new w.drew (.cells ((bvs l).toArray ++ (bvs m).toArray ++ (bvs (List.replicate (cp - (l.length + m.length)) 0)).toArray) 5)
      rw [bvs_append, bvs_append]
      simpa using this
    rcases hown with ⟨rfl, rfl⟩ | ⟨g, full, rfl, hbg, hg, hnc, hcm, htk⟩
    · by_cases h0 : m.length = 0
      · obtain rfl : m = [] := List.eq_nil_of_length_eq_zero h0
        refine ⟨.slice none 0 0, w, ?_, Own.nil _ _, World.grownBy.refl w _, .inl rfl⟩
        simp [Builtin.append_, run_underlying ht, sizeOf, typeInfo, hi, Builtin.lenOf, Builtin.firstCells, loadCells, loadCellsFrom]
      · have hrun := run_append_nil (P := P) w t ty 5 i (.int .u8 0) ht hi hz ad m.length c (bvs m) (by rw [hsize]; simp) hnews (by omega) (by omega) (by rw [hby]; simp at hlen; omega)
        have hgr := grown 0 (Value.ownBlock (.slice none 0 0))
        simp only [bvs, List.map_nil, List.length_nil, Nat.zero_add, List.nil_append] at hgr hrun ⊢
        simp only [show (#[] : Array Value) ++ (List.map bv m).toArray = (List.map bv m).toArray by simp] at hgr
        exact ⟨_, _, hrun, hgr.1, hgr.2, .inr rfl⟩
    · by_cases hroom : l.length + m.length ≤ full.length
      · have hrun := run_append_room (P := P) w t ty 5 i ht hi g l.length full.length (bvs full).toArray hg ad m.length c (bvs m) (by rw [hsize]; simp) hnews (bvs_one _) hroom (by rw [hsize]; simp; omega)
        rw [hsize] at hrun
        have hl2 : l ++ m ++ full.drop (l.length + m.length) = full.take l.length ++ m ++ full.drop (l.length + m.length) := by rw [htk]
        have hfl : (l ++ m ++ full.drop (l.length + m.length)).length = full.length := by simp; omega
        refine ⟨_, _, hrun, .inr ⟨g, l ++ m ++ full.drop (l.length + m.length), by rw [hfl, List.length_append], hbg, ?_, by rw [hfl, List.length_append]; exact hroom, by rw [hfl]; exact hcm, List.take_left⟩,
          ⟨rfl, rfl, rfl, by simp, fun k _ hk => setRow_other w g k _ (fun e => hk (by simp [Value.ownBlock, e]))⟩, .inl rfl⟩
        have := setRow_heap w g _ ((bvs full).toArray.toList.take (l.length * 1) ++ bvs m ++ (bvs full).toArray.toList.drop (l.length * 1 + (bvs m).length)).toArray _ _ hg
        rw [this, hl2]
        simp [bvs]
      · have holds : ∀ j u, (bvs l)[j]? = some u → w.cell? ((⟨g, 0, none⟩ : Addr).add j) = some u := fun j u hu => by
          obtain ⟨hj, rfl⟩ := bvs_get hu
          obtain ⟨b, o, he, hb, hcell⟩ := at_of_block hg hnc (by rw [htk]; omega)
          obtain ⟨rfl, rfl⟩ : g = b ∧ 0 = o := by simp at he; exact he
          have := hcell j (by rw [htk]; exact hj)
          rw [addr_add, this]
          simp [htk]
        have hrun := run_append_grow (P := P) w t ty 5 i (.int .u8 0) ht hi hz ⟨g, 0, none⟩ l.length full.length (bvs l) (by rw [hsize]; simp) holds ad m.length c (bvs m) (by rw [hsize]; simp) hnews (by omega) (by omega) (growslice_fits (by omega) (by rw [hby]; omega))
        have hgr := grown full.length (Value.ownBlock (.slice (some ⟨g, 0, none⟩) l.length full.length))
        exact ⟨_, _, hrun, hgr.1, hgr.2, .inr rfl⟩

theorem wpList_app {w : World} {ops : Array Oper} {rest : List Oper} {o : Oper} {a : Act} {Q : Exit → Act → World → Prop} (hgd : o.guard = none) (s x : Operand) (t : TypeId)
    (ho : o.op = .call { callee := .builtin .append, args := #[s, x], argTypes := #[t, t] })
    (ht : P.underlying t = some (.slice 5)) (hi : (P.info? 5).map (fun i => (i.zero, i.size, i.bytes)) = some (some (.int .u8 0), 1, 1))
    (B : Nat) (v vx : Value) (l m : List UInt8) (hs : a.eval s = v) (hx : a.eval x = vx) (hown : Own B w v l) (hr : Rd w vx m) (hlen : l.length + m.length ≤ 140737488355328) (hB : B ≤ w.heap.size)
    (h : ∀ v' w', Own B w' v' (l ++ m) → Below B w w' → w.grownBy w' v.ownBlock → wpList P ops Q rest (a.put o.dst v') w') : wpList P ops Q (o :: rest) a w := by
  refine wpList_plain hgd fun K hK => ?_
  obtain ⟨i, hi0, hz, hsz, hby⟩ := info_parts hi
  obtain ⟨v', w', hr, h2, h3, h5⟩ := app_run (P := P) w t o.type i ht hi0 hz hsz hby B v vx l m hown hr hlen hB
  unfold Oper.wp execOp
  simp only [ho, resolve, invoke, builtin, Sem.run_bind, Sem.run_pure, Result.andThen_ok, List.map_toArray, List.map_cons, List.map_nil, hs, hx, hr]
  exact hK _ _ (h v' w' h2 (Own.below hB hown h3) h3)

/-! ### make and copy of bytes -/
def zer (n : Nat) : Array Value := (bvs (List.replicate n 0)).toArray
theorem madeCells_zer (n : Nat) : madeCells #[.int .u8 0] n = zer n := by
  apply Array.ext
  · simp [madeCells, zer]
  · intro i h1 h2
    have hi : i < n := by simpa [madeCells] using h1
    simp only [madeCells, zer, bvs, List.getElem_toArray, Array.getElem_map, List.getElem_map, List.getElem_replicate]
    simp [Nat.mod_one]
theorem run_mk (t : TypeId) (ht : P.underlying t = some (.slice 5)) (hi : (P.info? 5).map (fun i => (i.zero, i.size, i.bytes)) = some (some (.int .u8 0), 1, 1)) (kl kc : IntKind) (n : Nat) (hn : n ≤ 281474976710656) (w : World) :
    (Instr.makeSlice t (.int kl (n : Int)) (.int kc (n : Int))).run P w = .ok (.slice (some ⟨w.heap.size, 0, none⟩) n n) (w.alloc (.cells (zer n) 5)) := by
  obtain ⟨i, hi0, hz, hsz, hby⟩ := info_parts hi
  have hb : (i.bytes : Int) * (n : Int) ≤ 281474976710656 := by rw [hby]; omega
  have := run_make (P := P) w t _ i _ ht hi0 hz kl kc n n (by omega) (by omega) hb (by omega)
  simp only [Int.toNat_natCast] at this
  rw [this, hsz, Nat.mul_one]
  show _ = Result.ok _ (w.alloc (.cells (zer n) _))
  rw [← madeCells_zer]
  rfl
def zeros (n : Nat) : List UInt8 := List.replicate n 0
theorem zeros_length (n : Nat) : (zeros n).length = n := by simp [zeros]
theorem Own.made (w : World) (n : Nat) (h : n ≤ maxLen) : Own w.heap.size (w.alloc (.cells (zer n) 5)) (.slice (some ⟨w.heap.size, 0, none⟩) n n) (zeros n) := by
  have := Own.new w (List.replicate n 0) (by simpa using h)
  simpa [zer, zeros] using this

theorem wpList_cpy {w : World} {ops : Array Oper} {rest : List Oper} {o : Oper} {a : Act} {Q : Exit → Act → World → Prop} (hgd : o.guard = none) (d s : Operand) (dT sT : TypeId)
    (ho : o.op = .call { callee := .builtin .copy, args := #[d, s], argTypes := #[dT, sT] }) (hu : P.underlying dT = some (.slice 5)) (hi : (P.info? 5).map (fun i => (i.zero, i.size, i.bytes)) = some (some (.int .u8 0), 1, 1))
    (B : Nat) (vd vs : Value) (ld ls : List UInt8) (hd : a.eval d = vd) (hs : a.eval s = vs) (hown : Own B w vd ld) (hr : Rd w vs ls)
    (h : ∀ w', Own B w' vd (ls.take ld.length ++ ld.drop ls.length) → w.grownBy w' vd.ownBlock → wpList P ops Q rest (a.put o.dst (goInt (Nat.min ls.length ld.length))) w') : wpList P ops Q (o :: rest) a w := by
  obtain ⟨i, hi0, hz, hsz, hby⟩ := info_parts hi
  have hsz' : (P.info? 5).map (·.size) = some 1 := by rw [hi0]; simp [hsz]
  obtain ⟨A, c, rfl, hc, hm, ha⟩ := hr
  by_cases h0 : Nat.min ls.length ld.length = 0
  · have hl : ls.take ld.length ++ ld.drop ls.length = ld := by
      rcases Nat.eq_zero_or_pos ls.length with e | e
      · obtain rfl : ls = [] := List.eq_nil_of_length_eq_zero e
        simp
      · have e2 : ld.length = 0 := by have := h0; simp only [Nat.min_def] at this; split at this <;> omega
        obtain rfl : ld = [] := List.eq_nil_of_length_eq_zero e2
        simp
    rw [h0] at h
    rcases hown with ⟨rfl, rfl⟩ | ⟨g, full, rfl, hg, hh, rest'⟩
    · exact wpList_copy_nothing hgd d s dT sT ho 5 hu hsz' none A 0 0 ls.length c hd hs (by simp) (h w (by rw [hl]; exact Own.nil _ _) (World.grownBy.refl w _))
    · exact wpList_copy_nothing hgd d s dT sT ho 5 hu hsz' _ A _ full.length ls.length c hd hs h0 (h w (by rw [hl]; exact .inr ⟨g, full, rfl, hg, hh, rest'⟩) (World.grownBy.refl w _))
  · have hpos : 0 < ls.length ∧ 0 < ld.length := by
      simp only [Nat.min_def] at h0
      split at h0 <;> omega
    obtain ⟨b, o', rfl, hb, hcell⟩ := ha hpos.1
    rcases hown with ⟨rfl, rfl⟩ | ⟨g, full, rfl, hg, hh, hnc, hcm, htk⟩
    · simp at hpos
    · have hlen : (bvs (ls.take ld.length)).length = Nat.min ls.length ld.length := by simp [Nat.min_def]; split <;> split <;> omega
      refine wpList_copy_own hgd d s dT sT ho 5 hu hsz' g 0 ld.length full.length ⟨b, o', none⟩ ls.length c hd hs _ _ hh (bvs (ls.take ld.length)) hlen ?_ ?_ (bvs_one _) ?_
      · intro j u hu'
        obtain ⟨hj, rfl⟩ := bvs_get hu'
        have hj' : j < ls.length := by simp at hj; omega
        rw [addr_add, hcell j hj']
        simp
      · have h1 : Nat.min ls.length ld.length ≤ ld.length := Nat.min_le_right _ _
        have h2 : (bvs full).toArray.size = full.length := by simp
        rw [hlen, Nat.zero_add, h2]
        exact Nat.le_trans h1 hnc
      · rw [hlen]
        have hmn : Nat.min ls.length ld.length ≤ ld.length := Nat.min_le_right _ _
        have hdr : ld.drop ls.length = ld.drop (Nat.min ls.length ld.length) := by
          rcases Nat.le_total ls.length ld.length with e | e
          · rw [show Nat.min ls.length ld.length = ls.length from Nat.min_eq_left e]
          · rw [show Nat.min ls.length ld.length = ld.length from Nat.min_eq_right e, List.drop_eq_nil_of_le e, List.drop_eq_nil_of_le (Nat.le_refl _)]
        generalize hmm : Nat.min ls.length ld.length = mn at *
        have htl : (ls.take ld.length).length = mn := by simpa using hlen
        have hL : (ls.take ld.length ++ ld.drop ls.length).length = ld.length := by
          rw [List.length_append, htl, hdr, List.length_drop]
          omega
        have hF : (ls.take ld.length ++ full.drop mn).length = full.length := by
          rw [List.length_append, htl, List.length_drop]
          omega
        refine h _ (.inr ⟨g, ls.take ld.length ++ full.drop mn, by rw [hL, hF], hg, ?_, by rw [hL, hF]; exact hnc, by rw [hF]; exact hcm, ?_⟩) ⟨rfl, rfl, rfl, by simp, fun k _ hne => setRow_other _ _ _ _ (fun e => hne (by simp [Value.ownBlock, e]))⟩
        · rw [setRow_heap _ _ _ _ _ _ hh]
          simp [bvs]
        · rw [hL, hdr, List.take_append, List.take_of_length_le (by rw [htl]; exact hmn), htl, ← List.drop_take, htk]

theorem wpList_cpy_all {w : World} {ops : Array Oper} {rest : List Oper} {o : Oper} {a : Act} {Q : Exit → Act → World → Prop} (hgd : o.guard = none) (d s : Operand) (dT sT : TypeId)
    (ho : o.op = .call { callee := .builtin .copy, args := #[d, s], argTypes := #[dT, sT] }) (hu : P.underlying dT = some (.slice 5)) (hi : (P.info? 5).map (fun i => (i.zero, i.size, i.bytes)) = some (some (.int .u8 0), 1, 1))
    (B : Nat) (vd vs : Value) (ld ls : List UInt8) (hd : a.eval d = vd) (hs : a.eval s = vs) (hown : Own B w vd ld) (hr : Rd w vs ls) (hl : ls.length = ld.length)
    (h : ∀ w', Own B w' vd ls → w.grownBy w' vd.ownBlock → wpList P ops Q rest (a.put o.dst (goInt ls.length)) w') : wpList P ops Q (o :: rest) a w := by
  refine wpList_cpy hgd d s dT sT ho hu hi B vd vs ld ls hd hs hown hr fun w' h1 h2 => ?_
  rw [← hl, List.take_of_length_le (Nat.le_refl _), List.drop_eq_nil_of_le (by omega), List.append_nil] at h1
  rw [← hl, show Nat.min ls.length ls.length = ls.length from Nat.min_self _]
  exact h w' h1 h2
end


/-! ### a row that is written, byte by byte -/
theorem blk_cell {w : World} {g : Nat} {full : List UInt8} (h : w.heap[g]? = some (.cells (bvs full).toArray 5 (0, 0))) {k : Nat} (hk : k < full.length) : w.cell? ⟨g, k, none⟩ = some (bv full[k]) := by
  have hc : w.cell? ⟨g, k, none⟩ = (bvs full).toArray[k]? := cell_of_row w g k _ _ (0, 0) h
  rw [hc]
  simp [bvs, hk]
theorem blk_frozen {w : World} {g : Nat} {cs : Array Value} {t : TypeId} (h : w.heap[g]? = some (.cells cs t (0, 0))) (k : Nat) : w.frozen? ⟨g, k, none⟩ = false := by
  simp [World.frozen?, h]
theorem blk_set {w : World} {g : Nat} {full : List UInt8} (h : w.heap[g]? = some (.cells (bvs full).toArray 5 (0, 0))) (k : Nat) (x : UInt8) : (w.setCell ⟨g, k, none⟩ (bv x)).heap[g]? = some (.cells (bvs (full.set k x)).toArray 5 (0, 0)) := by
  simp [World.setCell, Array.getElem?_modify, h, bvs, List.map_set]
theorem Below.blk {B g : Nat} {w w' : World} {o : Obj} (hb : Below B w w') (hg : g < B) (h : w.heap[g]? = some o) : w'.heap[g]? = some o := (hb.block g hg).trans h
theorem Nx.blk {w w' : World} {g : Nat} {o : Obj} (hb : Nx w w') (h : w.heap[g]? = some o) : w'.heap[g]? = some o := (hb.block g (Array.getElem?_eq_some_iff.1 h).1).trans h
theorem take_set_snoc {α : Type} (l : List α) (k : Nat) (x : α) (h : k < l.length) : (l.set k x).take (k + 1) = l.take k ++ [x] := by
  rw [List.take_succ_eq_append_getElem (by simpa using h)]
  simp [List.take_set_of_le]

end Go.Proofs.YtpkopigiijiiiaaDoor
end

section
namespace Go.Proofs.YtpkopigiijiiiaaDoor
open Go.ChangeShapes Go.WideShapes Go.ChangeAt Go.RowKit

section
variable {H : Type} {enc : TypeId × Value → H} {P : Program} {W : World} {base : Nat}

theorem wf_u8 {n : Int} (h : (Lit.int .u8 n).wf = true) : 0 ≤ n ∧ n ≤ 255 := by
  simpa [Lit.wf, IntKind.min, IntKind.max, IntKind.signed, IntKind.bits] using h
theorem wf_u64 {n : Int} (h : (Lit.int .u64 n).wf = true) : 0 ≤ n ∧ n ≤ 18446744073709551615 := by
  simpa [Lit.wf, IntKind.min, IntKind.max, IntKind.signed, IntKind.bits] using h
theorem wf_u32 {n : Int} (h : (Lit.int .u32 n).wf = true) : 0 ≤ n ∧ n ≤ 4294967295 := by
  simpa [Lit.wf, IntKind.min, IntKind.max, IntKind.signed, IntKind.bits] using h
theorem wf_i64 {n : Int} (h : (Lit.int .i64 n).wf = true) : -9223372036854775808 ≤ n ∧ n ≤ 9223372036854775807 := by
  simpa [Lit.wf, IntKind.min, IntKind.max, IntKind.signed, IntKind.bits] using h

theorem open_bytes_d {ts : List TypeId} {ds : List (DataW H)} {j : Nat} {t : TypeId} {v : Value} {d : DataW H} {p : List MemPlace} {b0 : Nat}
    (ht : P.underlying t = some (.slice 5)) (he : P.underlying 5 = some (.int .u8)) (hc : P.cellsOf 5 = 1) (hby : P.bytesOf 5 = 1)
    (hv : Value.okWide P W .any b0 t v) (h : DataW.Trod enc P W base (fun _ => true) true t v d p)
    (hsz : (DataW.weightsEach P ts ds).all (· ≤ reachBytes) = true) (hts : ts[j]? = some t) (hds : ds[j]? = some d) :
    ∃ l : List UInt8, Rd W v l ∧ l.length ≤ 140737488351232 ∧ ((d = .nil ∧ l = []) ∨ ∃ elems spare : List (DataW H), d = .slice elems spare ∧ elems.length = l.length) := by
  obtain ⟨a0, len0, cap0, rfl⟩ := okWide_slice ht hv
  obtain ⟨fuel, hf⟩ := h
  rcases open_ints ht he hc hf with ⟨hcs, hx⟩ | ⟨x, len, c, zs, hcs, _, hl, hm, hz, hx, hcell, hwz⟩
  · simp [Value.cells] at hcs
    obtain ⟨rfl, rfl, rfl⟩ := hcs
    exact ⟨[], Rd.nil W, by simp, .inl ⟨by simp only [Prod.mk.injEq] at hx; exact hx.1, rfl⟩⟩
  · simp [Value.cells] at hcs
    obtain ⟨rfl, rfl, rfl⟩ := hcs
    simp only [if_true] at hz
    have hd : d = .slice (lits .u8 (zs.take len0)) (lits .u8 (zs.drop len0)) := by
      simp only [Prod.mk.injEq] at hx
      exact hx.1
    have hr := sized_slice hsz hts (by rw [hds, hd]) ht
    rw [hby] at hr
    have hlen : ((zs.take len0).map fun z => UInt8.ofNat z.toNat).length = len0 := by simp; omega
    refine ⟨(zs.take len0).map fun z => UInt8.ofNat z.toNat, ?_, ?_, .inr ⟨_, _, hd, by rw [hlen]; simp [lits]; omega⟩⟩
    · refine ⟨some x, cap0, by rw [hlen], by rw [hlen]; exact hl, hm, fun h0 => ?_⟩
      rw [hlen] at h0
      have hc0 := hcell 0 (by omega)
      obtain ⟨b, o, sp⟩ := x
      have hsp : sp = none := by simpa [Addr.add] using World.cell?_spot hc0
      subst hsp
      refine ⟨b, o, rfl, ?_, fun i hi => ?_⟩
      · have := World.block_lt_of_cell? W _ hc0
        simpa [Addr.add] using this
      · rw [hlen] at hi
        have hci := hcell i (by omega)
        rw [addr_add] at hci
        rw [hci]
        have hiz : i < zs.length := by omega
        have hg : zs.getD i 0 = zs[i] := by simp [List.getD_eq_getElem?_getD, hiz]
        have hw := wf_u8 (hwz zs[i] (List.getElem_mem _))
        rw [hg]
        have h8 : (UInt8.ofNat zs[i].toNat).toNat = zs[i].toNat := by rw [UInt8.toNat_ofNat']; omega
        simp only [List.getElem_map, List.getElem_take, bv]
        rw [h8, Int.toNat_of_nonneg hw.1]
    · rw [hlen]
      have h1 : (lits (H := H) .u8 (zs.take len0)).length = len0 := by simp [lits]; omega
      rw [h1] at hr
      have h2 : reachBytes = 140737488351232 := by decide
      rw [h2] at hr
      omega

theorem open_bytes {ts : List TypeId} {ds : List (DataW H)} {j : Nat} {t : TypeId} {v : Value} {d : DataW H} {p : List MemPlace} {b0 : Nat}
    (ht : P.underlying t = some (.slice 5)) (he : P.underlying 5 = some (.int .u8)) (hc : P.cellsOf 5 = 1) (hby : P.bytesOf 5 = 1)
    (hv : Value.okWide P W .any b0 t v) (h : DataW.Trod enc P W base (fun _ => true) true t v d p)
    (hsz : (DataW.weightsEach P ts ds).all (· ≤ reachBytes) = true) (hts : ts[j]? = some t) (hds : ds[j]? = some d) :
    ∃ l : List UInt8, Rd W v l ∧ l.length ≤ 140737488351232 := by
  obtain ⟨l, h1, h2, _⟩ := open_bytes_d ht he hc hby hv h hsz hts hds
  exact ⟨l, h1, h2⟩
end
end Go.Proofs.YtpkopigiijiiiaaDoor
end

section
namespace Go.Proofs.YtpkopigiijiiiaaDoor

/-- So many bytes of n, the lowest first. -/
def low : Nat → Nat → List UInt8
  | _, 0 => []
  | n, m + 1 => UInt8.ofNat n :: low (n / 256) m

/-- The number of bytes, the lowest first. -/
def num : List UInt8 → Nat
  | [] => 0
  | x :: l => x.toNat + 256 * num l

@[simp] theorem low_length (n m : Nat) : (low n m).length = m := by
  induction m generalizing n with
  | zero => rfl
  | succ m ih => simp [low, ih]

theorem low_snoc (n k : Nat) : low n (k + 1) = low n k ++ [UInt8.ofNat (n / 256 ^ k)] := by
  induction k generalizing n with
  | zero => simp [low]
  | succ k ih =>
    rw [low, ih]
    simp only [low, List.cons_append]
    rw [Nat.div_div_eq_div_mul, Nat.pow_succ, Nat.mul_comm]

theorem num_lt (l : List UInt8) : num l < 256 ^ l.length := by
  induction l with
  | nil => simp [num]
  | cons x l ih =>
    have hx := x.toNat_lt
    simp only [num, List.length_cons, Nat.pow_succ]
    omega

theorem num_low (n m : Nat) (h : n < 256 ^ m) : num (low n m) = n := by
  induction m generalizing n with
  | zero => simp at h; simp [low, num, h]
  | succ m ih =>
    have h' : n / 256 < 256 ^ m := by
      rw [Nat.pow_succ] at h
      exact Nat.div_lt_of_lt_mul (by omega)
    simp only [low, num, ih _ h', UInt8.toNat_ofNat']
    omega

theorem low_num (l : List UInt8) : low (num l) l.length = l := by
  induction l with
  | nil => rfl
  | cons x l ih =>
    have hx := x.toNat_lt
    have h1 : (x.toNat + 256 * num l) / 256 = num l := by omega
    have h2 : UInt8.ofNat (x.toNat + 256 * num l) = x := by
      apply UInt8.toNat_inj.1
      simp only [UInt8.toNat_ofNat']
      omega
    simp only [List.length_cons, low, num, h1, h2, ih]

theorem num_snoc (l : List UInt8) (x : UInt8) : num (l ++ [x]) = num l + 256 ^ l.length * x.toNat := by
  induction l with
  | nil => simp [num]
  | cons y l ih =>
    simp only [List.cons_append, num, ih, List.length_cons, Nat.pow_succ]
    rw [Nat.mul_add]
    have : 256 * (256 ^ l.length * x.toNat) = 256 ^ l.length * 256 * x.toNat := by
      rw [← Nat.mul_assoc, Nat.mul_comm 256]
    omega

theorem num_inj {l r : List UInt8} (hl : l.length = r.length) (h : num l = num r) : l = r := by
  rw [← low_num l, ← low_num r, h, hl]

theorem take_drop_snoc {α : Type} (l : List α) (i k : Nat) (h : i + k < l.length) : (l.drop i).take (k + 1) = (l.drop i).take k ++ [l[i + k]] := by
  rw [List.take_succ_eq_append_getElem (by simp; omega)]
  simp

/-- One byte more, above. -/
theorem or_num (a x j : Nat) (ha : a < 256 ^ j) : a ||| (x * 256 ^ j) = a + 256 ^ j * x := by
  have e2 : (2 : Nat) ^ (8 * j) = 256 ^ j := by rw [Nat.pow_mul]
  rw [← e2] at ha ⊢
  rw [Nat.mul_comm x, Nat.or_comm, ← Nat.two_pow_add_eq_or_of_lt ha, Nat.add_comm]

end Go.Proofs.YtpkopigiijiiiaaDoor
end

section
namespace Go.Proofs.YtpkopigiijiiiaaDoor
open Go.RowKit
set_option linter.unusedVariables false
set_option linter.unusedSimpArgs false

theorem Nx.setAt {a b : World} (h : Nx a b) {k i : Nat} (v : Value) (hp : a.heap.size ≤ k) : Nx a (b.setCell ⟨k, i, none⟩ v) := Below.setCell h hp v
theorem Nx.facts {a b : World} (h : Nx a b) : (∀ k i, k < a.heap.size → b.cell? ⟨k, i, none⟩ = a.cell? ⟨k, i, none⟩) ∧ (∀ k i, k < a.heap.size → b.frozen? ⟨k, i, none⟩ = a.frozen? ⟨k, i, none⟩) ∧ a.heap.size ≤ b.heap.size :=
  ⟨fun k i hk => h.cell (p := ⟨k, i, none⟩) hk, fun k i hk => h.frozen (p := ⟨k, i, none⟩) hk, h.size⟩
theorem drewN_setCell (w : World) (n : Nat) (a : Addr) (v : Value) : (w.drewN n).setCell a v = (w.setCell a v).drewN n := rfl
theorem alloc_size (w : World) (o : Obj) : (w.alloc o).heap.size = w.heap.size + 1 := by simp
theorem drewN_size (w : World) (n : Nat) : (w.drewN n).heap.size = w.heap.size := rfl
theorem put1 (w : World) (cs : Array Value) (t : TypeId) (n i : Nat) (v : Value) :
    ((w.alloc (.cells cs t)).drewN n).setCell ⟨w.heap.size, i, none⟩ v = (w.alloc (.cells (cs.setIfInBounds i v) t)).drewN n := by
  rw [drewN_setCell, World.setCell_alloc_at _ _ _ _ _ rfl]
theorem put2 (w : World) (cs : Array Value) (t : TypeId) (o2 : Obj) (n i : Nat) (v : Value) :
    (((w.alloc (.cells cs t)).alloc o2).drewN n).setCell ⟨w.heap.size, i, none⟩ v = ((w.alloc (.cells (cs.setIfInBounds i v) t)).alloc o2).drewN n := by
  rw [drewN_setCell, World.setCell_alloc_past _ _ _ _ (by simp), World.setCell_alloc_at _ _ _ _ _ rfl]
/-- A store into the first of three blocks that were laid. -/
theorem put3a (w : World) (cs : Array Value) (t : TypeId) (o2 o3 : Obj) (n i : Nat) (v : Value) :
    ((((w.alloc (.cells cs t)).alloc o2).alloc o3).drewN n).setCell ⟨w.heap.size, i, none⟩ v = (((w.alloc (.cells (cs.setIfInBounds i v) t)).alloc o2).alloc o3).drewN n := by
  rw [drewN_setCell, World.setCell_alloc_past _ _ _ _ (by simp; omega), World.setCell_alloc_past _ _ _ _ (by simp), World.setCell_alloc_at _ _ _ _ _ rfl]

theorem put3b (w : World) (cs : Array Value) (t : TypeId) (o1 o3 : Obj) (n i : Nat) (v : Value) :
    ((((w.alloc o1).alloc (.cells cs t)).alloc o3).drewN n).setCell ⟨w.heap.size + 1, i, none⟩ v = (((w.alloc o1).alloc (.cells (cs.setIfInBounds i v) t)).alloc o3).drewN n := by
  rw [drewN_setCell, World.setCell_alloc_past _ _ _ _ (by simp), World.setCell_alloc_at _ _ _ _ _ (by simp)]
theorem put3c (w : World) (cs : Array Value) (t : TypeId) (o1 o2 : Obj) (n i : Nat) (v : Value) :
    ((((w.alloc o1).alloc o2).alloc (.cells cs t)).drewN n).setCell ⟨w.heap.size + 1 + 1, i, none⟩ v = (((w.alloc o1).alloc o2).alloc (.cells (cs.setIfInBounds i v) t)).drewN n := by
  rw [drewN_setCell, World.setCell_alloc_at _ _ _ _ _ (by simp)]
theorem put2b (w : World) (cs : Array Value) (t : TypeId) (o1 : Obj) (n i : Nat) (v : Value) :
    (((w.alloc o1).alloc (.cells cs t)).drewN n).setCell ⟨w.heap.size + 1, i, none⟩ v = ((w.alloc o1).alloc (.cells (cs.setIfInBounds i v) t)).drewN n := by
  rw [drewN_setCell, World.setCell_alloc_at _ _ _ _ _ (by simp)]

section
variable {P : Program}
/-- A callee that leaves each world alone, met within a region that draws; behind draws already. -/
theorem still1 {f : FuncId} {args : Array Value} {w : World} {n : Nat} {v : Value} (h : ∀ W : World, Calls P f args W fun e w' => e = .returned v ∧ w' = W) :
    Calls P f args (w.drewN n) fun e w'' => e = .returned v ∧ ∃ m, w'' = w.drewN m := (h _).mono fun _ _ hh => ⟨hh.1, n, hh.2⟩
theorem still2 {f : FuncId} {args : Array Value} {w : World} {a n : Nat} {v : Value} (h : ∀ W : World, Calls P f args W fun e w' => e = .returned v ∧ w' = W) :
    Calls P f args (w.drewN (a + n)) fun e w'' => e = .returned v ∧ ∃ m, w'' = w.drewN (a + m) := (h _).mono fun _ _ hh => ⟨hh.1, n, hh.2⟩
end
end Go.Proofs.YtpkopigiijiiiaaDoor
end

section
namespace Go.Proofs.YtpkopigiijiiiaaDoor
open Go.RowKit
set_option linter.unusedVariables false
set_option linter.unusedSimpArgs false
theorem drewN_drew (w : World) (n : Nat) : (w.drewN n).drew = w.drewN (n + 1) := rfl
theorem set_twice (cs : Array Value) (i : Nat) (v v' : Value) : (cs.setIfInBounds i v).setIfInBounds i v' = cs.setIfInBounds i v' := by
  first | exact Array.setIfInBounds_setIfInBounds .. | simp | grind
theorem put3c2 (w : World) (cs : Array Value) (t : TypeId) (o1 o2 : Obj) (n i : Nat) (v v' : Value) :
    ((((((w.alloc o1).alloc o2).alloc (.cells cs t)).drewN n).setCell ⟨w.heap.size + 1 + 1, i, none⟩ v).setCell ⟨w.heap.size + 1 + 1, i, none⟩ v').drew = (((w.alloc o1).alloc o2).alloc (.cells (cs.setIfInBounds i v') t)).drewN (n + 1) := by
  rw [put3c, put3c, drewN_drew, set_twice]
end Go.Proofs.YtpkopigiijiiiaaDoor
end

section
namespace Go.Proofs.YtpkopigiijiiiaaDoor
open Go.RowKit
set_option linter.unusedVariables false
set_option linter.unusedSimpArgs false

/-- Block g of w is the row cs, and may be written. -/
def Row (w : World) (g : Nat) (cs : Array Value) (t : TypeId) : Prop := w.heap[g]? = some (.cells cs t (0, 0))
theorem Row.lt {w : World} {g : Nat} {cs : Array Value} {t : TypeId} (h : Row w g cs t) : g < w.heap.size := (Array.getElem?_eq_some_iff.1 h).1
theorem Row.nx {w w' : World} {g : Nat} {cs : Array Value} {t : TypeId} (h : Row w g cs t) (k : Nx w w') : Row w' g cs t := by
  unfold Row
  rw [k.block g h.lt]; exact h
theorem Row.cell {w : World} {g : Nat} {cs : Array Value} {t : TypeId} (h : Row w g cs t) {i : Nat} {v : Value} (hv : cs[i]? = some v) : w.cell? ⟨g, i, none⟩ = some v := by
  rw [cell_of_row w g i cs t (0, 0) h]; exact hv
theorem Row.frozen {w : World} {g : Nat} {cs : Array Value} {t : TypeId} (h : Row w g cs t) (i : Nat) : w.frozen? ⟨g, i, none⟩ = false := frozen_of_row w g i cs t h
theorem Row.new (w : World) (cs : Array Value) (t : TypeId) (g : Nat) (hg : g = w.heap.size) : Row (w.alloc (.cells cs t)) g cs t := by
  subst hg; exact heap_alloc_new w _
theorem Row.alloc {w : World} {g : Nat} {cs : Array Value} {t : TypeId} (h : Row w g cs t) (o : Obj) : Row (w.alloc o) g cs t := h.nx ((Nx.refl w).alloc o)
theorem Row.drewN {w : World} {g : Nat} {cs : Array Value} {t : TypeId} (h : Row w g cs t) (n : Nat) : Row (w.drewN n) g cs t := h
theorem Row.drew {w : World} {g : Nat} {cs : Array Value} {t : TypeId} (h : Row w g cs t) : Row w.drew g cs t := h
theorem Row.set {w : World} {g : Nat} {cs : Array Value} {t : TypeId} (h : Row w g cs t) (i : Nat) (v : Value) : Row (w.setCell ⟨g, i, none⟩ v) g (cs.setIfInBounds i v) t := heap_setCell_same w g i cs t v h
theorem Row.other {w : World} {g : Nat} {cs : Array Value} {t : TypeId} (h : Row w g cs t) (k i : Nat) (v : Value) (hk : g ≠ k) : Row (w.setCell ⟨k, i, none⟩ v) g cs t := by
  unfold Row
  rw [heap_setCell_other w ⟨k, i, none⟩ g v hk]; exact h
theorem setCell_size (w : World) (a : Addr) (v : Value) : (w.setCell a v).heap.size = w.heap.size := by simp [World.setCell]
end Go.Proofs.YtpkopigiijiiiaaDoor
end

section
namespace Go.Proofs.YtpkopigiijiiiaaDoor
open Go.RowKit
set_option linter.unusedVariables false
set_option linter.unusedSimpArgs false

/-- Limb i of n. -/
def lim (n i : Nat) : Nat := n / 2 ^ (64 * i) % 18446744073709551616
def top : Nat := 115792089237316195423570985008687907853269984665640564039457584007913129639936
theorem top_eq : top = 2 ^ 256 := by decide +kernel
/-- The cells of n. -/
def u4 (x0 x1 x2 x3 : Nat) : Array Value := #[.int .u64 (x0 : Int), .int .u64 (x1 : Int), .int .u64 (x2 : Int), .int .u64 (x3 : Int)]
def cel (n : Nat) : Array Value := #[.int .u64 (lim n 0 : Int), .int .u64 (lim n 1 : Int), .int .u64 (lim n 2 : Int), .int .u64 (lim n 3 : Int)]
abbrev U (n : Nat) : Value := .agg (cel n)

theorem lim_lt (n i : Nat) : lim n i < 18446744073709551616 := Nat.mod_lt _ (by decide)
theorem lim_le (n i : Nat) : ((lim n i : Nat) : Int) ≤ 18446744073709551615 := by have := lim_lt n i; omega
theorem lim0 (n : Nat) : lim n 0 = n % 18446744073709551616 := by simp [lim]
theorem lim1 (n : Nat) : lim n 1 = n / 18446744073709551616 % 18446744073709551616 := by simp [lim]
theorem lim2 (n : Nat) : lim n 2 = n / 340282366920938463463374607431768211456 % 18446744073709551616 := by simp [lim]
theorem lim3 (n : Nat) : lim n 3 = n / 6277101735386680763835789423207666416102355444464034512896 % 18446744073709551616 := by simp [lim]

theorem lim_all (n : Nat) (h : n < top) : n = lim n 0 + 18446744073709551616 * lim n 1 + 340282366920938463463374607431768211456 * lim n 2 + 6277101735386680763835789423207666416102355444464034512896 * lim n 3 := by
  rw [lim0, lim1, lim2, lim3]
  unfold top at h
  omega

/-- The number of four limbs. -/
def num4 (x0 x1 x2 x3 : Nat) : Nat := x0 + 18446744073709551616 * x1 + 340282366920938463463374607431768211456 * x2 + 6277101735386680763835789423207666416102355444464034512896 * x3
theorem num4_lt {x0 x1 x2 x3 : Nat} (h0 : x0 < 18446744073709551616) (h1 : x1 < 18446744073709551616) (h2 : x2 < 18446744073709551616) (h3 : x3 < 18446744073709551616) : num4 x0 x1 x2 x3 < top := by
  unfold num4 top; omega
theorem num4_lim {x0 x1 x2 x3 : Nat} (h0 : x0 < 18446744073709551616) (h1 : x1 < 18446744073709551616) (h2 : x2 < 18446744073709551616) (h3 : x3 < 18446744073709551616) :
    lim (num4 x0 x1 x2 x3) 0 = x0 ∧ lim (num4 x0 x1 x2 x3) 1 = x1 ∧ lim (num4 x0 x1 x2 x3) 2 = x2 ∧ lim (num4 x0 x1 x2 x3) 3 = x3 := by
  rw [lim0, lim1, lim2, lim3]; unfold num4; omega
theorem num4_cel {x0 x1 x2 x3 : Nat} (h0 : x0 < 18446744073709551616) (h1 : x1 < 18446744073709551616) (h2 : x2 < 18446744073709551616) (h3 : x3 < 18446744073709551616) :
    u4 x0 x1 x2 x3 = cel (num4 x0 x1 x2 x3) := by
  obtain ⟨e0, e1, e2, e3⟩ := num4_lim h0 h1 h2 h3
  unfold u4 cel
  rw [e0, e1, e2, e3]
theorem lim_inj {a b : Nat} (ha : a < top) (hb : b < top) (h0 : lim a 0 = lim b 0) (h1 : lim a 1 = lim b 1) (h2 : lim a 2 = lim b 2) (h3 : lim a 3 = lim b 3) : a = b := by
  rw [lim_all a ha, lim_all b hb, h0, h1, h2, h3]

/-- The carry into limb k of a sum. -/
def car (a b c k : Nat) : Nat := (a % 2 ^ (64 * k) + b % 2 ^ (64 * k) + c) / 2 ^ (64 * k)
theorem car0 (a b c : Nat) : car a b c 0 = c := by simp [car, Nat.mod_one]
theorem car_le (a b c k : Nat) (hc : c ≤ 1) : car a b c k ≤ 1 := by
  unfold car
  have hp : 0 < 2 ^ (64 * k) := Nat.pow_pos (by omega)
  have h1 := Nat.mod_lt a hp
  have h2 := Nat.mod_lt b hp
  generalize 2 ^ (64 * k) = m at *
  have : (a % m + b % m + c) / m < 2 := by rw [Nat.div_lt_iff_lt_mul hp]; omega
  omega
theorem mod_step (a m q : Nat) : a % (m * q) = a % m + m * (a / m % q) := Nat.mod_mul
theorem sum_step (a b c k : Nat) : lim (a + b + c) k = (lim a k + lim b k + car a b c k) % 18446744073709551616 ∧ car a b c (k + 1) = (lim a k + lim b k + car a b c k) / 18446744073709551616 := by
  unfold lim car
  have hp : 0 < 2 ^ (64 * k) := Nat.pow_pos (by omega)
  have e : 2 ^ (64 * (k + 1)) = 2 ^ (64 * k) * 18446744073709551616 := by rw [show 64 * (k + 1) = 64 * k + 64 by omega, Nat.pow_add]
  rw [e, mod_step, mod_step]
  generalize 2 ^ (64 * k) = m at *
  generalize 18446744073709551616 = q
  have ea : a = a % m + m * (a / m) := by have := Nat.mod_add_div a m; omega
  have eb : b = b % m + m * (b / m) := by have := Nat.mod_add_div b m; omega
  constructor
  · have : a + b + c = (a % m + b % m + c) + m * (a / m + b / m) := by rw [Nat.mul_add]; omega
    rw [this, Nat.add_mul_div_left _ _ hp, Nat.add_comm]
    simp [Nat.add_mod]
  · have : a % m + m * (a / m % q) + (b % m + m * (b / m % q)) + c = (a % m + b % m + c) + m * (a / m % q + b / m % q) := by rw [Nat.mul_add]; omega
    rw [this, ← Nat.div_div_eq_div_mul, Nat.add_mul_div_left _ _ hp, Nat.add_comm]

theorem halves (x y c : Nat) (hx : x < 18446744073709551616) (hy : y < 18446744073709551616) (hc : c ≤ 1) :
    bits .or .u64 (((x : Int) / 4294967296 + (y : Int) / 4294967296 + ((x : Int) % 4294967296 + (y : Int) % 4294967296 + (c : Int)) / 4294967296) * 4294967296 % 18446744073709551616) (((x : Int) % 4294967296 + (y : Int) % 4294967296 + (c : Int)) % 4294967296)
      = (((x + y + c) % 18446744073709551616 : Nat) : Int) := by
  have e1 : ((x : Int) / 4294967296 + (y : Int) / 4294967296 + ((x : Int) % 4294967296 + (y : Int) % 4294967296 + (c : Int)) / 4294967296) * 4294967296 % 18446744073709551616 = (((x / 4294967296 + y / 4294967296 + (x % 4294967296 + y % 4294967296 + c) / 4294967296) * 4294967296 % 18446744073709551616 : Nat) : Int) := by omega
  have e2 : ((x : Int) % 4294967296 + (y : Int) % 4294967296 + (c : Int)) % 4294967296 = (((x % 4294967296 + y % 4294967296 + c) % 4294967296 : Nat) : Int) := by omega
  rw [e1, e2, u64_or_nat _ _ (by omega) (by omega), nat_join 32 _ _ (by omega) (by omega)]
  congr 1
  omega
theorem carry_of (x y c : Nat) : ((x : Int) / 4294967296 + (y : Int) / 4294967296 + ((x : Int) % 4294967296 + (y : Int) % 4294967296 + (c : Int)) / 4294967296) / 4294967296 = (((x + y + c) / 18446744073709551616 : Nat) : Int) := by omega

theorem lim_mod (n : Nat) : lim (n % top) 0 = lim n 0 ∧ lim (n % top) 1 = lim n 1 ∧ lim (n % top) 2 = lim n 2 ∧ lim (n % top) 3 = lim n 3 := by
  rw [lim0, lim1, lim2, lim3, lim0, lim1, lim2, lim3]
  unfold top
  omega
def addN (a b : Nat) : Nat := (a + b) % top
def addB (a b : Nat) : Bool := decide (top ≤ a + b)
def subN (a b : Nat) : Nat := if b ≤ a then a - b else top + a - b
def subB (a b : Nat) : Bool := decide (a < b)
/-- All bits turned over. -/
def turnN (b : Nat) : Nat := top - 1 - b
theorem addN_lt (a b : Nat) : addN a b < top := Nat.mod_lt _ (by decide)
theorem subN_lt {a b : Nat} (ha : a < top) (hb : b < top) : subN a b < top := by unfold subN; split <;> omega
theorem car4 (a b c : Nat) : car a b c 4 = (a % top + b % top + c) / top := by unfold car; rw [show (2 : Nat) ^ (64 * 4) = top by decide +kernel]
theorem add_facts (a b : Nat) (ha : a < top) (hb : b < top) : lim (a + b + 0) 0 = lim (addN a b) 0 ∧ lim (a + b + 0) 1 = lim (addN a b) 1 ∧ lim (a + b + 0) 2 = lim (addN a b) 2 ∧ lim (a + b + 0) 3 = lim (addN a b) 3 ∧
    (((car a b 0 4 : Nat) : Int) != 0) = addB a b := by
  obtain ⟨e0, e1, e2, e3⟩ := lim_mod (a + b)
  refine ⟨e0.symm, e1.symm, e2.symm, e3.symm, ?_⟩
  rw [car4, Nat.mod_eq_of_lt ha, Nat.mod_eq_of_lt hb]
  unfold addB
  rw [Bool.eq_iff_iff]
  simp only [bne_iff_ne, decide_eq_true_eq, ne_eq]
  unfold top at *
  omega
theorem sub_facts (a b : Nat) (ha : a < top) (hb : b < top) : lim (a + turnN b + 1) 0 = lim (subN a b) 0 ∧ lim (a + turnN b + 1) 1 = lim (subN a b) 1 ∧ lim (a + turnN b + 1) 2 = lim (subN a b) 2 ∧ lim (a + turnN b + 1) 3 = lim (subN a b) 3 ∧
    (((car a (turnN b) 1 4 : Nat) : Int) == 0) = subB a b := by
  have e : (a + turnN b + 1) % top = subN a b := by
    unfold turnN subN
    split
    · rw [show a + (top - 1 - b) + 1 = (a - b) + top by omega, Nat.add_mod_right, Nat.mod_eq_of_lt (by omega)]
    · rw [show a + (top - 1 - b) + 1 = top + a - b by omega, Nat.mod_eq_of_lt (by omega)]
  obtain ⟨e0, e1, e2, e3⟩ := lim_mod (a + turnN b + 1)
  rw [e] at e0 e1 e2 e3
  refine ⟨e0.symm, e1.symm, e2.symm, e3.symm, ?_⟩
  have ht : turnN b < top := by unfold turnN; omega
  rw [car4, Nat.mod_eq_of_lt ha, Nat.mod_eq_of_lt ht]
  unfold subB turnN
  rw [Bool.eq_iff_iff]
  simp only [beq_iff_eq, decide_eq_true_eq]
  unfold top at *
  omega
theorem turn_lim (b : Nat) (hb : b < top) : lim (turnN b) 0 = 18446744073709551615 - lim b 0 ∧ lim (turnN b) 1 = 18446744073709551615 - lim b 1 ∧ lim (turnN b) 2 = 18446744073709551615 - lim b 2 ∧ lim (turnN b) 3 = 18446744073709551615 - lim b 3 := by
  rw [lim0, lim1, lim2, lim3, lim0, lim1, lim2, lim3]
  unfold turnN top at *
  omega
theorem turn_u64 (x : Nat) (hx : x < 18446744073709551616) : bits .xor .u64 18446744073709551615 (x : Int) = ((18446744073709551615 - x : Nat) : Int) := by
  have h := u64_andNot_nat 18446744073709551615 x (by omega) hx
  have e : (18446744073709551615 : Nat) ^^^ x = 18446744073709551615 - x := by
    rw [show (18446744073709551615 : Nat) = 2 ^ 64 - 1 by decide]
    apply Nat.eq_of_testBit_eq
    intro i
    rw [Nat.testBit_xor, Nat.testBit_two_pow_sub_one]
    rw [show 2 ^ 64 - 1 - x = 2 ^ 64 - (x + 1) by omega, Nat.testBit_two_pow_sub_succ (by omega)]
    by_cases hi : i < 64
    · simp [hi]
    · have : x.testBit i = false := Nat.testBit_lt_two_pow (Nat.lt_of_lt_of_le hx (Nat.pow_le_pow_right (by decide) (by omega) : 2 ^ 64 ≤ 2 ^ i))
      simp [hi, this]
  have := u64_xor_nat 18446744073709551615 x (by omega) hx
  rw [e] at this
  exact this
/-- A limb's product with a carry: the limb, and what is above. -/
def mlo (x n c : Nat) : Nat := (x * n + c) % 18446744073709551616
def mhi (x n c : Nat) : Nat := (x * n + c) / 18446744073709551616
def mulN (a n : Nat) : Nat := a * n % top
def mulH (a n : Nat) : Nat := a * n / top
/-- The carry into limb k of a product. -/
def mca (a n k : Nat) : Nat := a % 2 ^ (64 * k) * n / 2 ^ (64 * k)
theorem mca0 (a n : Nat) : mca a n 0 = 0 := by simp [mca, Nat.mod_one]
theorem mca4 (a n : Nat) (ha : a < top) : mca a n 4 = mulH a n := by unfold mca mulH; rw [show (2 : Nat) ^ (64 * 4) = top by decide +kernel, Nat.mod_eq_of_lt ha]
theorem mca_lt (a n k : Nat) (hn : n < 18446744073709551616) : mca a n k < 18446744073709551616 := by
  unfold mca
  have hp : 0 < 2 ^ (64 * k) := Nat.pow_pos (by omega)
  have h1 := Nat.mod_lt a hp
  generalize 2 ^ (64 * k) = m at *
  rw [Nat.div_lt_iff_lt_mul hp]
  calc a % m * n ≤ m * n := Nat.mul_le_mul_right _ (Nat.le_of_lt h1)
    _ < 18446744073709551616 * m := by rw [Nat.mul_comm]; exact Nat.mul_lt_mul_of_pos_right hn hp
theorem mul_step (a n k : Nat) : lim (a * n) k = mlo (lim a k) n (mca a n k) ∧ mca a n (k + 1) = mhi (lim a k) n (mca a n k) := by
  unfold lim mca mlo mhi
  have hp : 0 < 2 ^ (64 * k) := Nat.pow_pos (by omega)
  have e : 2 ^ (64 * (k + 1)) = 2 ^ (64 * k) * 18446744073709551616 := by rw [show 64 * (k + 1) = 64 * k + 64 by omega, Nat.pow_add]
  rw [e, mod_step]
  generalize 2 ^ (64 * k) = m at *
  generalize 18446744073709551616 = q
  have ea : a = a % m + m * (a / m) := by have := Nat.mod_add_div a m; omega
  constructor
  · have h2 : a * n = a % m * n + m * (a / m * n) := by
      have : a * n = (a % m + m * (a / m)) * n := by rw [← ea]
      rw [this, Nat.add_mul, Nat.mul_assoc]
    rw [h2, Nat.add_mul_div_left _ _ hp, Nat.add_comm]
    simp [Nat.add_mod, Nat.mul_mod]
  · rw [Nat.add_mul, ← Nat.div_div_eq_div_mul, Nat.mul_assoc, Nat.add_mul_div_left _ _ hp, Nat.add_comm]
theorem mul_lims (a n : Nat) : lim (a * n) 0 = lim (mulN a n) 0 ∧ lim (a * n) 1 = lim (mulN a n) 1 ∧ lim (a * n) 2 = lim (mulN a n) 2 ∧ lim (a * n) 3 = lim (mulN a n) 3 := by
  obtain ⟨e0, e1, e2, e3⟩ := lim_mod (a * n)
  exact ⟨e0.symm, e1.symm, e2.symm, e3.symm⟩
theorem less_facts (a b : Nat) : subB a b = decide (a < b) := rfl
end Go.Proofs.YtpkopigiijiiiaaDoor
end

section
namespace Go.Proofs.YtpkopigiijiiiaaDoor
open Go.RowKit
set_option linter.unusedVariables false
set_option linter.unusedSimpArgs false
theorem Row.zero4 {w : World} {g : Nat} {t : TypeId} (h : Row w g #[.int .u64 0, .int .u64 0, .int .u64 0, .int .u64 0] t) : w.cell? ⟨g, 0, none⟩ = some (.int .u64 0) ∧ w.cell? ⟨g, 1, none⟩ = some (.int .u64 0) ∧ w.cell? ⟨g, 2, none⟩ = some (.int .u64 0) ∧ w.cell? ⟨g, 3, none⟩ = some (.int .u64 0) := ⟨h.cell rfl, h.cell rfl, h.cell rfl, h.cell rfl⟩
theorem Row.four {w : World} {g n : Nat} {t : TypeId} (h : Row w g #[.int .u64 (lim n 0 : Int), .int .u64 (lim n 1 : Int), .int .u64 (lim n 2 : Int), .int .u64 (lim n 3 : Int)] t) : w.cell? ⟨g, 0, none⟩ = some (.int .u64 (lim n 0 : Int)) ∧ w.cell? ⟨g, 1, none⟩ = some (.int .u64 (lim n 1 : Int)) ∧ w.cell? ⟨g, 2, none⟩ = some (.int .u64 (lim n 2 : Int)) ∧ w.cell? ⟨g, 3, none⟩ = some (.int .u64 (lim n 3 : Int)) := ⟨h.cell rfl, h.cell rfl, h.cell rfl, h.cell rfl⟩

theorem Row.new2 (w : World) (o1 : Obj) (cs : Array Value) (t : TypeId) : Row ((w.alloc o1).alloc (.cells cs t)) (w.heap.size + 1) cs t := Row.new _ _ _ _ (by simp)
theorem Row.new3 (w : World) (o1 o2 : Obj) (cs : Array Value) (t : TypeId) : Row (((w.alloc o1).alloc o2).alloc (.cells cs t)) (w.heap.size + 1 + 1) cs t := Row.new _ _ _ _ (by simp)
theorem Nx.setRow {a b : World} (h : Nx a b) {g : Nat} (cs : Array Value) (hp : a.heap.size ≤ g) : Nx a (b.setRow g cs) :=
  ⟨h.os, h.tape, h.output, by rw [size_setRow]; exact h.size, fun k hk => by rw [setRow_other _ _ _ _ (by omega)]; exact h.block k hk⟩
theorem Row.setRow {w : World} {g : Nat} {old : Array Value} {t : TypeId} (h : Row w g old t) (cs : Array Value) : Row (w.setRow g cs) g cs t := setRow_heap w g old cs t (0, 0) h
theorem Row.setRow_other {w : World} {g k : Nat} {cs : Array Value} {t : TypeId} (h : Row w g cs t) (new : Array Value) (hk : g ≠ k) : Row (w.setRow k new) g cs t := by
  unfold Row
  rw [Go.setRow_other _ _ _ _ hk]; exact h
end Go.Proofs.YtpkopigiijiiiaaDoor
end

section
namespace Go.Proofs.YtpkopigiijiiiaaDoor
open Go.RowKit
set_option linter.unusedVariables false
set_option linter.unusedSimpArgs false
section
variable {P : Program}

def ints (k : IntKind) (xs : List Int) : Array Value := (xs.map (Value.int k)).toArray
theorem ints_get (k : IntKind) (xs : List Int) (i : Nat) (h : i < xs.length) : (ints k xs)[i]? = some (.int k xs[i]) := by
  simp [ints, h]

theorem eq_ints (d : Nat) (t e : TypeId) (n : Nat) (k : IntKind) (ht : P.underlying t = some (.array n e)) (he : P.underlying e = some (.int k)) (hag : ∀ w, (isAgg e).run P w = .ok false w) (hsz : ∀ w, (sizeOf e).run P w = .ok 1 w)
    (xs ys : List Int) (hx : xs.length = n) (hy : ys.length = n) (w : World) :
    (Op.equalIn (d + 2) t (.agg (ints k xs)) (.agg (ints k ys))).run P w = .ok (decide (xs = ys)) w := by
  rw [Op.equalIn]
  simp only [Sem.run_bind, run_underlying ht, Result.andThen_ok, hsz]
  simp only [Std.Legacy.Range.forIn_eq_forIn_range', Std.Legacy.Range.size, Nat.sub_zero, Nat.add_one_sub_one, Nat.div_one]
  obtain ⟨j, m, hjm, hj0, hm0⟩ : ∃ j m : Nat, j + m = n ∧ 0 = j ∧ m = n := ⟨0, n, by omega, rfl, rfl⟩
  have htk : xs.take j = ys.take j := by rw [← hj0]; simp
  rw [hj0]
  rw [show List.range' j n = List.range' j m by rw [hm0]]
  clear hm0 hj0
  induction m generalizing j with
  | zero =>
    have : xs = ys := by
      have h1 : j = n := by omega
      rw [h1, List.take_of_length_le (by omega), List.take_of_length_le (by omega)] at htk
      exact htk
    simp [this]
  | succ m ih =>
    have hjx : j < xs.length := by omega
    have hjy : j < ys.length := by omega
    have p1 : ∀ w, (part e (ints k xs) (j * 1)).run P w = .ok (.int k xs[j]) w := by
      intro w; simp [part, hag, ints_get k xs j hjx]
    have p2 : ∀ w, (part e (ints k ys) (j * 1)).run P w = .ok (.int k ys[j]) w := by
      intro w; simp [part, hag, ints_get k ys j hjy]
    rw [List.range'_succ]
    simp only [List.forIn_cons, Sem.run_bind, p1, p2, Result.andThen_ok, run_equalIn_int w d e k k _ _ he]
    by_cases hv : xs[j] = ys[j]
    · have hb : (xs[j] == ys[j]) = true := by simp [hv]
      simp only [hb, Bool.not_true, Bool.false_eq_true, if_false, Sem.run_pure, Result.andThen_ok]
      exact ih (j + 1) (by omega) (by rw [List.take_succ_eq_append_getElem hjx, List.take_succ_eq_append_getElem hjy, htk, hv])
    · have hb : (xs[j] == ys[j]) = false := by simp [hv]
      have hne : xs ≠ ys := fun h => hv (by subst h; rfl)
      simp [hb, hne]
end
end Go.Proofs.YtpkopigiijiiiaaDoor
end

section
namespace Go.Proofs.YtpkopigiijiiiaaDoor
open Go.RowKit

set_option maxHeartbeats 400000 in
/-- Same of two slices that read alike: true. -/
theorem same_yes (v1 v2 : Value) (l : List UInt8) (w : World) (h1 : Rd w v1 l) (h2 : Rd w v2 l) :
    Calls Tryd.prog 14 #[v1, v2] w fun e w' => e = .returned (.bool true) ∧ Nx w w' := by
  obtain ⟨A1, c1, rfl, hc1, hm1, ha1⟩ := h1
  obtain ⟨A2, c2, rfl, hc2, hm2, ha2⟩ := h2
  unfold maxLen at hm1
  have hne : ((l.length : Int) != (l.length : Int)) = false := by simp
  go_enter Tryd.func14, Tryd.ntmps14
  go_wp2
  go_loopw [5] (fun i wr => ∃ k : Nat, k ≤ l.length ∧ i = .int .i64 k ∧ ∃ n, wr = w.drewN n) (fun i _ => l.length - (intOf i).toNat)
  case atStart => exact ⟨0, by omega, rfl, 0, rfl⟩
  case round =>
    obtain ⟨k, hk, rfl, n, rfl⟩ := hrel
    by_cases hlt : k < l.length
    · obtain ⟨b1, o1, rfl, hb1, hc1⟩ := ha1 (by omega)
      obtain ⟨b2, o2, rfl, hb2, hc2⟩ := ha2 (by omega)
      have g1 := hc1 k hlt
      have g2 := hc2 k hlt
      clear hc1 hc2 hne
      have hlt' : (k : Int) < (l.length : Int) := by omega
      have hne2 : ((l[k].toNat : Int) != (l[k].toNat : Int)) = false := by simp
      go_wp2
      go_quiet (fail)
      go_wp2
      go_roundw
      case rel => exact ⟨k + 1, by omega, by go_num, _, rfl⟩
      case measure => simp [intOf]; omega
    · go_wp2
      go_ret
      exact ⟨rfl, (Nx.refl w).drewN n⟩

theorem first_apart {l1 l2 : List UInt8} (hl : l1.length = l2.length) (hne : l1 ≠ l2) : ∀ k, k ≤ l1.length → l1.take k = l2.take k → k < l1.length := by
  intro k hk he
  rcases Nat.lt_or_ge k l1.length with h | h
  · exact h
  · have hk' : k = l1.length := by omega
    subst hk'
    rw [List.take_of_length_le (Nat.le_refl _), hl, List.take_of_length_le (Nat.le_refl _)] at he
    exact absurd he hne

set_option maxHeartbeats 400000 in
/-- Same of two slices that do not read alike: false. -/
theorem same_no (v1 v2 : Value) (l1 l2 : List UInt8) (w : World) (h1 : Rd w v1 l1) (h2 : Rd w v2 l2) (hne : l1 ≠ l2) :
    Calls Tryd.prog 14 #[v1, v2] w fun e w' => e = .returned (.bool false) ∧ Nx w w' := by
  obtain ⟨A1, c1, rfl, hc1, hm1, ha1⟩ := h1
  obtain ⟨A2, c2, rfl, hc2, hm2, ha2⟩ := h2
  unfold maxLen at hm1
  by_cases hl : l1.length = l2.length
  · have hle : ((l1.length : Int) != (l2.length : Int)) = false := by simp [hl]
    have HF := Lib.hid (first_apart hl hne)
    have HL := Lib.hid hl
    have hl1 : l1.length ≤ l2.length := by omega
    clear hl hne
    go_enter Tryd.func14, Tryd.ntmps14
    go_wp2
    go_loopw [5] (fun i wr => ∃ k : Nat, k ≤ l1.length ∧ i = .int .i64 k ∧ Hid (l1.take k = l2.take k) ∧ ∃ n, wr = w.drewN n) (fun i _ => l1.length - (intOf i).toNat)
    case atStart => exact ⟨0, by omega, rfl, show _ = _ by simp, 0, rfl⟩
    case round =>
      obtain ⟨k, hk, rfl, HE, n, rfl⟩ := hrel
      have hlt := HF.out k hk HE.out
      obtain ⟨b1, o1, rfl, hb1, hc1⟩ := ha1 (by omega)
      obtain ⟨b2, o2, rfl, hb2, hc2⟩ := ha2 (by omega)
      have g1 := hc1 k hlt
      have g2 := hc2 k (by omega)
      clear hc1 hc2 hle ha1 ha2
      have hlt' : (k : Int) < (l1.length : Int) := by omega
      have hlt2 : (k : Int) < (l2.length : Int) := by omega
      by_cases hx : l1[k] = l2[k]
      · have hne2 : ((l1[k].toNat : Int) != (l2[k].toNat : Int)) = false := by rw [hx]; simp
        have HX := Lib.hid hx
        clear hx
        go_wp2
        go_quiet (fail)
        go_wp2
        go_roundw
        case rel => exact ⟨k + 1, by omega, by go_num, show _ = _ by rw [List.take_succ_eq_append_getElem hlt, List.take_succ_eq_append_getElem (by omega), HE.out, HX.out], _, rfl⟩
        case measure => simp [intOf]; omega
      · have hne2 : ((l1[k].toNat : Int) != (l2[k].toNat : Int)) = true := by
          have : l1[k].toNat ≠ l2[k].toNat := fun e => hx (UInt8.toNat_inj.1 e)
          rw [bne_iff_ne]; omega
        clear hx
        go_wp2
        go_quiet (fail)
        go_wp2
        go_ret
        exact ⟨rfl, by first | exact ((Nx.refl w).drewN _).drewN _ | exact (Nx.refl w).drewN _⟩
  · have hle : ((l1.length : Int) != (l2.length : Int)) = true := by rw [bne_iff_ne]; omega
    clear hl
    go_enter Tryd.func14, Tryd.ntmps14
    go_wp2
    go_ret
    exact ⟨rfl, Nx.refl w⟩
end Go.Proofs.YtpkopigiijiiiaaDoor
end

section
namespace Go.Proofs.YtpkopigiijiiiaaDoor
open Go.RowKit
set_option linter.unusedVariables false
set_option linter.unusedSimpArgs false

theorem wrap_pow (x p : Nat) : IntKind.u64.wrap ((x : Int) * 2 ^ p) = ((x * 2 ^ p % 18446744073709551616 : Nat) : Int) := by
  rw [IntKind.wrap_u64, Int.natCast_emod, Int.natCast_mul, Int.natCast_pow]; rfl
theorem div_pow (x p : Nat) : (x : Int) / 2 ^ p = ((x / 2 ^ p : Nat) : Int) := by
  rw [Int.natCast_ediv, Int.natCast_pow]; rfl

theorem lim_up (x q j : Nat) : lim (x * 2 ^ (64 * q)) (q + j) = lim x j := by
  unfold lim
  rw [show 64 * (q + j) = 64 * j + 64 * q by omega, Nat.pow_add, Nat.mul_div_mul_right _ _ (Nat.pow_pos (by omega))]
theorem lim_under (x q i : Nat) (h : i < q) : lim (x * 2 ^ (64 * q)) i = 0 := by
  unfold lim
  obtain ⟨d, rfl⟩ : ∃ d, q = i + 1 + d := ⟨q - (i + 1), by omega⟩
  rw [show 64 * (i + 1 + d) = 64 * i + (64 + 64 * d) by omega, Nat.pow_add, Nat.mul_comm (2 ^ (64 * i)), ← Nat.mul_assoc, Nat.mul_div_cancel _ (Nat.pow_pos (by omega)), Nat.pow_add]
  rw [show x * (2 ^ 64 * 2 ^ (64 * d)) = 18446744073709551616 * (x * 2 ^ (64 * d)) by rw [show (2 : Nat) ^ 64 = 18446744073709551616 by decide, Nat.mul_left_comm]]
  exact Nat.mul_mod_right _ _
theorem lim_down (x q j : Nat) : lim (x / 2 ^ (64 * q)) j = lim x (q + j) := by
  unfold lim
  rw [Nat.div_div_eq_div_mul, ← Nat.pow_add, show 64 * q + 64 * j = 64 * (q + j) by omega]

theorem pow_split {p : Nat} (hp : p ≤ 64) : (18446744073709551616 : Nat) = 2 ^ (64 - p) * 2 ^ p := by
  rw [← Nat.pow_add, show 64 - p + p = 64 by omega]

theorem lim_shl0 (a p : Nat) : lim (a * 2 ^ p) 0 = lim a 0 * 2 ^ p % 18446744073709551616 := by
  rw [lim0, lim0]; simp [Nat.mul_mod]
theorem lim_shl (a p j : Nat) (hp : p ≤ 64) : lim (a * 2 ^ p) (j + 1) = (lim a (j + 1) * 2 ^ p % 18446744073709551616) ||| (lim a j / 2 ^ (64 - p)) := by
  have hs := pow_split hp
  have hpp : 0 < 2 ^ p := Nat.pow_pos (by omega)
  have hlt : lim a j / 2 ^ (64 - p) < 2 ^ p := by
    rw [Nat.div_lt_iff_lt_mul (Nat.pow_pos (by omega)), Nat.mul_comm, ← hs]
    exact lim_lt a j
  have hmod : lim a (j + 1) * 2 ^ p % 18446744073709551616 % 2 ^ p = 0 := by
    rw [hs, Nat.mod_mul_left_mod, Nat.mul_mod_left]
  rw [nat_join p _ _ hmod hlt]
  unfold lim at *
  have hQ : 0 < 18446744073709551616 := by decide
  have e : (2 : Nat) ^ (64 * (j + 1)) = 2 ^ (64 * j) * 18446744073709551616 := by rw [show 64 * (j + 1) = 64 * j + 64 by omega, Nat.pow_add]
  rw [e]
  have hm : 0 < 2 ^ (64 * j) := Nat.pow_pos (by omega)
  generalize 2 ^ (64 * j) = m at *
  generalize 18446744073709551616 = Q at *
  rw [← Nat.div_div_eq_div_mul, ← Nat.div_div_eq_div_mul]
  -- a = r + m * A
  have ha : a = a % m + m * (a / m) := by have := Nat.mod_add_div a m; omega
  generalize a / m = A at *
  generalize hr : a % m = r at *
  have hrm : r < m := by rw [← hr]; exact Nat.mod_lt _ hm
  have h1 : a * 2 ^ p / m = r * 2 ^ p / m + A * 2 ^ p := by
    rw [ha, Nat.add_mul, Nat.mul_assoc, Nat.add_mul_div_left _ _ hm]
  rw [h1]
  have h2 : r * 2 ^ p / m < 2 ^ p := by
    rw [Nat.div_lt_iff_lt_mul hm, Nat.mul_comm]
    exact Nat.mul_lt_mul_of_pos_left hrm hpp
  generalize r * 2 ^ p / m = u at *
  -- A = x + q * B
  have hA : A = A % Q + Q * (A / Q) := by have := Nat.mod_add_div A Q; omega
  have hx : A % Q < Q := Nat.mod_lt _ hQ
  generalize A / Q = B at *
  generalize A % Q = x at *
  have h3 : (u + A * 2 ^ p) / Q = x / 2 ^ (64 - p) + B * 2 ^ p := by
    have g1 : u + A * 2 ^ p = (u + x * 2 ^ p) + Q * (B * 2 ^ p) := by
      have : A * 2 ^ p = (x + Q * B) * 2 ^ p := by rw [← hA]
      rw [this, Nat.add_mul, Nat.mul_assoc, ← Nat.add_assoc]
    rw [g1, Nat.add_mul_div_left _ _ hQ]
    have g2 : (u + x * 2 ^ p) / Q = x / 2 ^ (64 - p) := by
      rw [hs, Nat.mul_comm (2 ^ (64 - p)) (2 ^ p), ← Nat.div_div_eq_div_mul, Nat.add_mul_div_right _ _ hpp, Nat.div_eq_of_lt h2, Nat.zero_add]
    rw [g2]
  rw [h3]
  have hz : x / 2 ^ (64 - p) < 2 ^ p := hlt
  generalize x / 2 ^ (64 - p) = z at *
  have h4 : B % Q * 2 ^ p % Q = B * 2 ^ p % Q := by simp [Nat.mul_mod]
  rw [h4]
  have h5 : B * 2 ^ p % Q = 2 ^ p * (B % 2 ^ (64 - p)) := by rw [hs, Nat.mul_comm B, Nat.mul_comm (2 ^ (64 - p)), Nat.mul_mod_mul_left]
  have h6 : 2 ^ p * (B % 2 ^ (64 - p)) + z < Q := by
    have hb : B % 2 ^ (64 - p) + 1 ≤ 2 ^ (64 - p) := Nat.mod_lt _ (Nat.pow_pos (by omega))
    have := Nat.mul_le_mul_left (2 ^ p) hb
    rw [Nat.mul_add, Nat.mul_comm (2 ^ p) (2 ^ (64 - p)), ← hs] at this
    omega
  rw [Nat.add_mod, h5]
  have hz2 : z % Q = z := Nat.mod_eq_of_lt (by omega)
  rw [hz2, Nat.mod_eq_of_lt (by omega), Nat.add_comm]

theorem lim_shr (a p j : Nat) (hp : p ≤ 64) : lim (a / 2 ^ p) j = (lim a j / 2 ^ p) ||| (lim a (j + 1) * 2 ^ (64 - p) % 18446744073709551616) := by
  have hs := pow_split hp
  have hpp : 0 < 2 ^ p := Nat.pow_pos (by omega)
  have hqp : 0 < 2 ^ (64 - p) := Nat.pow_pos (by omega)
  have hlt : lim a j / 2 ^ p < 2 ^ (64 - p) := by
    rw [Nat.div_lt_iff_lt_mul hpp, ← hs]
    exact lim_lt a j
  have hmod : lim a (j + 1) * 2 ^ (64 - p) % 18446744073709551616 % 2 ^ (64 - p) = 0 := by
    rw [hs, Nat.mod_mul_right_mod, Nat.mul_mod_left]
  rw [Nat.or_comm, nat_join (64 - p) _ _ hmod hlt]
  unfold lim at *
  have e : (2 : Nat) ^ (64 * (j + 1)) = 2 ^ (64 * j) * 18446744073709551616 := by rw [show 64 * (j + 1) = 64 * j + 64 by omega, Nat.pow_add]
  rw [e, ← Nat.div_div_eq_div_mul, Nat.div_div_eq_div_mul a (2 ^ p), Nat.mul_comm (2 ^ p), ← Nat.div_div_eq_div_mul]
  generalize a / 2 ^ (64 * j) = A at *
  generalize 18446744073709551616 = Q at *
  have hA : A = A % Q + Q * (A / Q) := by have := Nat.mod_add_div A Q; omega
  generalize A / Q = B at *
  generalize A % Q = x at *
  have h1 : A / 2 ^ p = x / 2 ^ p + 2 ^ (64 - p) * B := by
    rw [hA]
    rw [show Q * B = 2 ^ p * (2 ^ (64 - p) * B) by rw [hs, Nat.mul_comm (2 ^ (64 - p)) (2 ^ p), Nat.mul_assoc], Nat.add_mul_div_left _ _ hpp]
  rw [h1]
  have h4 : B % Q * 2 ^ (64 - p) % Q = B * 2 ^ (64 - p) % Q := by simp [Nat.mul_mod]
  rw [h4]
  have h5 : B * 2 ^ (64 - p) % Q = 2 ^ (64 - p) * (B % 2 ^ p) := by rw [hs, Nat.mul_comm B, Nat.mul_mod_mul_left]
  have h6 : 2 ^ (64 - p) * (B % 2 ^ p) + x / 2 ^ p < Q := by
    have hb : B % 2 ^ p + 1 ≤ 2 ^ p := Nat.mod_lt _ hpp
    have := Nat.mul_le_mul_left (2 ^ (64 - p)) hb
    rw [Nat.mul_add, ← hs] at this
    omega
  rw [h5, Nat.add_mod, show 2 ^ (64 - p) * B % Q = 2 ^ (64 - p) * (B % 2 ^ p) by rw [Nat.mul_comm (2 ^ (64 - p)) B, h5]]
  rw [Nat.mod_eq_of_lt (show x / 2 ^ p < Q by omega), Nat.mod_eq_of_lt (by omega), Nat.add_comm]

theorem shl_lo (a q p : Nat) : IntKind.u64.wrap ((lim a 0 : Int) * 2 ^ p) = (lim (a * 2 ^ (64 * q + p)) q : Int) := by
  rw [wrap_pow, ← lim_shl0]
  have := lim_up (a * 2 ^ p) q 0
  rw [show 64 * q + p = p + 64 * q by omega, Nat.pow_add, ← Nat.mul_assoc]
  rw [Nat.add_zero] at this
  rw [this]
theorem shl_hi (a q p j : Nat) (hp : p < 64) : bits .or .u64 (IntKind.u64.wrap ((lim a (j + 1) : Int) * 2 ^ p)) ((lim a j : Int) / 2 ^ (64 - p)) = (lim (a * 2 ^ (64 * q + p)) (q + (j + 1)) : Int) := by
  rw [wrap_pow, div_pow, u64_or_nat _ _ (Nat.mod_lt _ (by decide)) (Nat.lt_of_le_of_lt (Nat.div_le_self _ _) (lim_lt a j)), ← lim_shl a p j (by omega)]
  rw [show 64 * q + p = p + 64 * q by omega, Nat.pow_add, ← Nat.mul_assoc, lim_up]
theorem shl_zero (a q p i : Nat) (h : i < q) : lim (a * 2 ^ (64 * q + p)) i = 0 := by
  rw [show 64 * q + p = p + 64 * q by omega, Nat.pow_add, ← Nat.mul_assoc, lim_under _ _ _ h]
theorem lim_high (a i : Nat) (ha : a < top) (hi : 4 ≤ i) : lim a i = 0 := by
  unfold lim
  have : a < 2 ^ (64 * i) := Nat.lt_of_lt_of_le (by rw [← top_eq]; exact ha) (Nat.pow_le_pow_right (by decide) (by omega : 256 ≤ 64 * i))
  rw [Nat.div_eq_of_lt this]
theorem shr_hi (a q p j : Nat) (hp : p < 64) : bits .or .u64 ((lim a (q + j) : Int) / 2 ^ p) (IntKind.u64.wrap ((lim a (q + (j + 1)) : Int) * 2 ^ (64 - p))) = (lim (a / 2 ^ (64 * q + p)) j : Int) := by
  rw [wrap_pow, div_pow, u64_or_nat _ _ (Nat.lt_of_le_of_lt (Nat.div_le_self _ _) (lim_lt a _)) (Nat.mod_lt _ (by decide))]
  rw [Nat.pow_add, ← Nat.div_div_eq_div_mul, lim_shr _ p j (by omega), lim_down, lim_down]
theorem shr_last (a q p j : Nat) (hp : p < 64) (ha : a < top) (h : q + j = 3) : (lim a (q + j) : Int) / 2 ^ p = (lim (a / 2 ^ (64 * q + p)) j : Int) := by
  rw [div_pow, Nat.pow_add, ← Nat.div_div_eq_div_mul, lim_shr _ p j (by omega), lim_down, lim_down, lim_high a (q + (j + 1)) ha (by omega)]
  simp
theorem bshr_zero' (a n i : Nat) (ha : a < top) (h : 256 ≤ n) : lim (a / 2 ^ n) i = 0 := by
  have : a / 2 ^ n = 0 := Nat.div_eq_of_lt (Nat.lt_of_lt_of_le (by rw [← top_eq]; exact ha) (Nat.pow_le_pow_right (by decide) h))
  rw [this]; simp [lim]
theorem bshr_zero (a q p i : Nat) (ha : a < top) (h : 4 ≤ q + i) : lim (a / 2 ^ (64 * q + p)) i = 0 := by
  unfold lim
  rw [Nat.div_div_eq_div_mul, ← Nat.pow_add]
  have : a < 2 ^ (64 * q + p + 64 * i) := Nat.lt_of_lt_of_le (by rw [← top_eq]; exact ha) (Nat.pow_le_pow_right (by decide) (by omega))
  rw [Nat.div_eq_of_lt this]
end Go.Proofs.YtpkopigiijiiiaaDoor
end

section
namespace Go.Proofs.YtpkopigiijiiiaaDoor
open Go.RowKit
set_option linter.unusedVariables false
set_option linter.unusedSimpArgs false

/-- Bytes as the cells of an array. -/
def hcel (l : List UInt8) : Array Value := (bvs l).toArray
theorem hcel_size (l : List UInt8) : (hcel l).size = l.length := by simp [hcel]
theorem hcel_get (l : List UInt8) (i : Nat) (h : i < l.length) : (hcel l)[i]? = some (bv l[i]) := by simp [hcel, bvs, h]
theorem hcel_one (l : List UInt8) : (hcel l).all (·.oneCell') = true := by
  rw [Array.all_eq_true']
  intro x hx
  simp only [hcel, bvs, List.mem_toArray, List.mem_map] at hx
  obtain ⟨y, _, rfl⟩ := hx
  rfl
theorem hcel_ints (l : List UInt8) : hcel l = ints .u8 (l.map fun x => (x.toNat : Int)) := by simp [hcel, ints, bvs, List.map_map, Function.comp_def]
theorem hcel_set (l : List UInt8) (i : Nat) (x : UInt8) (h : i < l.length) : (hcel l).setIfInBounds i (bv x) = hcel (l.set i x) := by
  apply Array.ext
  · simp [hcel]
  · intro j h1 h2
    simp only [hcel, List.setIfInBounds_toArray, bvs, List.getElem_toArray]
    first | (simp [List.getElem_set]; done) | (simp [List.getElem_set]; split <;> simp_all)

section
variable {P : Program}
theorem run_index_bytes (t e : TypeId) (n : Nat) (ht : P.underlying t = some (.array n e)) (hag : ∀ w, (isAgg e).run P w = .ok false w) (hsz : ∀ w, (sizeOf e).run P w = .ok 1 w)
    (l : List UInt8) (hl : l.length = n) (i : Nat) (h : i < l.length) (w : World) : (Instr.index t (.agg (hcel l)) (.int .i64 (i : Int))).run P w = .ok (bv l[i]) w := by
  have hi : (0 : Int) ≤ (i : Int) ∧ (i : Int) < (n : Int) := by omega
  simp [Instr.index, asIntOf, run_underlying ht, hsz, part, hag, hcel_get l i h, hi]
  intro hh; omega
end

/-- A digit laid above what there is. -/
theorem digit_lim (t x n q p : Nat) (hn : n = 64 * q + p) (hx : x < 256) (hp : p ≤ 56) (h : t < 2 ^ n) (i : Nat) :
    lim (t + x * 2 ^ n) i = if i = q then lim t q + x * 2 ^ p else lim t i := by
  subst hn
  have hpp : 0 < 2 ^ (64 * q) := Nat.pow_pos (by omega)
  have hxp : x * 2 ^ p + 2 ^ p ≤ 18446744073709551616 := by
    have h1 : (x + 1) * 2 ^ p ≤ 256 * 2 ^ 56 := Nat.mul_le_mul (by omega) (Nat.pow_le_pow_right (by decide) hp)
    rw [Nat.add_mul, Nat.one_mul] at h1
    have h2 : (256 : Nat) * 2 ^ 56 = 18446744073709551616 := by decide
    omega
  have e : x * 2 ^ (64 * q + p) = x * 2 ^ p * 2 ^ (64 * q) := by rw [Nat.add_comm (64 * q), Nat.pow_add, Nat.mul_assoc]
  rw [e]
  have hd : t / 2 ^ (64 * q) < 2 ^ p := by
    rw [Nat.div_lt_iff_lt_mul hpp, ← Nat.pow_add, Nat.add_comm]; exact h
  by_cases hi : i < q
  · rw [if_neg (by omega)]
    unfold lim
    obtain ⟨d, rfl⟩ : ∃ d, q = i + 1 + d := ⟨q - (i + 1), by omega⟩
    have e2 : x * 2 ^ p * 2 ^ (64 * (i + 1 + d)) = 2 ^ (64 * i) * (18446744073709551616 * (x * 2 ^ p * 2 ^ (64 * d))) := by
      rw [show 64 * (i + 1 + d) = 64 * i + (64 + 64 * d) by omega, Nat.pow_add, Nat.pow_add, show (2 : Nat) ^ 64 = 18446744073709551616 by decide]
      rw [Nat.mul_left_comm (x * 2 ^ p), Nat.mul_left_comm (x * 2 ^ p)]
    rw [e2, Nat.add_mul_div_left _ _ (Nat.pow_pos (by omega)), Nat.add_mul_mod_self_left]
  · by_cases hq : i = q
    · subst hq
      rw [if_pos rfl]
      unfold lim
      rw [Nat.add_mul_div_right _ _ hpp]
      generalize t / 2 ^ (64 * i) = y at *
      rw [Nat.mod_eq_of_lt (by omega), Nat.mod_eq_of_lt (by omega)]
    · rw [if_neg hq]
      obtain ⟨j, rfl⟩ : ∃ j, i = q + (j + 1) := ⟨i - q - 1, by omega⟩
      unfold lim
      rw [show 64 * (q + (j + 1)) = 64 * q + (64 + 64 * j) by omega, Nat.pow_add, ← Nat.div_div_eq_div_mul, ← Nat.div_div_eq_div_mul, Nat.add_mul_div_right _ _ hpp]
      rw [Nat.pow_add, show (2 : Nat) ^ 64 = 18446744073709551616 by decide, ← Nat.div_div_eq_div_mul, ← Nat.div_div_eq_div_mul]
      generalize t / 2 ^ (64 * q) = y at *
      rw [Nat.div_eq_of_lt (show y < 18446744073709551616 by omega), Nat.div_eq_of_lt (show y + x * 2 ^ p < 18446744073709551616 by omega)]
theorem digit_or (t x n q p : Nat) (hn : n = 64 * q + p) (hx : x < 256) (hp : p ≤ 56) (h : t < 2 ^ n) :
    bits .or .u64 (lim t q : Int) (IntKind.u64.wrap ((x : Int) * 2 ^ p)) = (lim (t + x * 2 ^ n) q : Int) := by
  rw [digit_lim t x n q p hn hx hp h q, if_pos rfl, wrap_pow]
  have hxp : x * 2 ^ p < 18446744073709551616 := by
    have h1 : x * 2 ^ p ≤ 255 * 2 ^ 56 := Nat.mul_le_mul (by omega) (Nat.pow_le_pow_right (by decide) hp)
    have h2 : (255 : Nat) * 2 ^ 56 < 18446744073709551616 := by decide
    omega
  have hl : lim t q < 2 ^ p := by
    unfold lim
    refine Nat.lt_of_le_of_lt (Nat.mod_le _ _) ?_
    rw [Nat.div_lt_iff_lt_mul (Nat.pow_pos (by omega)), ← Nat.pow_add, Nat.add_comm, ← hn]; exact h
  rw [Nat.mod_eq_of_lt hxp, u64_or_nat _ _ (lim_lt t q) hxp, Nat.or_comm, nat_join p _ _ (Nat.mul_mod_left _ _) hl, Nat.add_comm]
theorem set_digit (t x n q p : Nat) (hq : q < 4) (hn : n = 64 * q + p) (hx : x < 256) (hp : p ≤ 56) (h : t < 2 ^ n) :
    ((#[.int .u64 (lim t 0 : Int), .int .u64 (lim t 1 : Int), .int .u64 (lim t 2 : Int), .int .u64 (lim t 3 : Int)] : Array Value)).setIfInBounds q (.int .u64 (bits .or .u64 (lim t q : Int) (IntKind.u64.wrap ((x : Int) * 2 ^ p)))) = (#[.int .u64 (lim (t + x * 2 ^ n) 0 : Int), .int .u64 (lim (t + x * 2 ^ n) 1 : Int), .int .u64 (lim (t + x * 2 ^ n) 2 : Int), .int .u64 (lim (t + x * 2 ^ n) 3 : Int)] : Array Value) := by
  rw [digit_or t x n q p hn hx hp h]
  have hq' : q = 0 ∨ q = 1 ∨ q = 2 ∨ q = 3 := by omega
  have B := digit_lim t x n q p hn hx hp h
  rcases hq' with rfl | rfl | rfl | rfl
  · rw [show lim t 1 = lim (t + x * 2 ^ n) 1 by rw [B 1]; rfl, show lim t 2 = lim (t + x * 2 ^ n) 2 by rw [B 2]; rfl, show lim t 3 = lim (t + x * 2 ^ n) 3 by rw [B 3]; rfl]; rfl
  · rw [show lim t 0 = lim (t + x * 2 ^ n) 0 by rw [B 0]; rfl, show lim t 2 = lim (t + x * 2 ^ n) 2 by rw [B 2]; rfl, show lim t 3 = lim (t + x * 2 ^ n) 3 by rw [B 3]; rfl]; rfl
  · rw [show lim t 0 = lim (t + x * 2 ^ n) 0 by rw [B 0]; rfl, show lim t 1 = lim (t + x * 2 ^ n) 1 by rw [B 1]; rfl, show lim t 3 = lim (t + x * 2 ^ n) 3 by rw [B 3]; rfl]; rfl
  · rw [show lim t 0 = lim (t + x * 2 ^ n) 0 by rw [B 0]; rfl, show lim t 1 = lim (t + x * 2 ^ n) 1 by rw [B 1]; rfl, show lim t 2 = lim (t + x * 2 ^ n) 2 by rw [B 2]; rfl]; rfl
theorem num_take (l : List UInt8) (k : Nat) (h : k < l.length) : num (l.take (k + 1)) = num (l.take k) + (l[k]).toNat * 2 ^ (8 * k) := by
  rw [List.take_succ_eq_append_getElem h, num_snoc, List.length_take, Nat.min_eq_left (by omega), Nat.mul_comm, show (2 : Nat) ^ (8 * k) = 256 ^ k by rw [Nat.pow_mul]]
theorem num_take_lt (l : List UInt8) (k : Nat) (h : k ≤ l.length) : num (l.take k) < 2 ^ (8 * k) := by
  have := num_lt (l.take k)
  rw [List.length_take, Nat.min_eq_left h] at this
  rw [show (2 : Nat) ^ (8 * k) = 256 ^ k by rw [Nat.pow_mul]]; exact this
theorem num_top (l : List UInt8) (h : l.length = 32) : num l < top := by
  have := num_lt l
  rw [h] at this
  rw [top_eq, show (2 : Nat) ^ 256 = 256 ^ 32 by decide +kernel]; exact this
/-- A byte of a limb. -/
theorem low_byte (a k q p : Nat) (hk : 8 * k = 64 * q + p) (hp : p ≤ 56) : ((lim a q : Int) / 2 ^ p) % 256 = ((UInt8.ofNat (a / 256 ^ k)).toNat : Int) := by
  rw [div_pow, UInt8.toNat_ofNat']
  have e : a / 256 ^ k = a / 2 ^ (64 * q) / 2 ^ p := by
    rw [Nat.div_div_eq_div_mul, ← Nat.pow_add, ← hk, show (256 : Nat) ^ k = 2 ^ (8 * k) by rw [Nat.pow_mul]]
  have e2 : lim a q / 2 ^ p % 256 = a / 256 ^ k % 256 := by
    rw [e]
    unfold lim
    generalize a / 2 ^ (64 * q) = y
    have hs := pow_split (p := p) (by omega)
    have h3 : 2 ^ (64 - p) = 256 * 2 ^ (56 - p) := by rw [show 64 - p = 8 + (56 - p) by omega, Nat.pow_add]
    rw [hs, Nat.mul_comm, Nat.mod_mul, Nat.add_mul_div_left _ _ (Nat.pow_pos (by omega)), Nat.div_eq_of_lt (Nat.mod_lt _ (Nat.pow_pos (by omega))), Nat.zero_add, h3, Nat.mod_mul_right_mod]
  omega
end Go.Proofs.YtpkopigiijiiiaaDoor
end

section
namespace Go.Proofs.YtpkopigiijiiiaaDoor
open Go Go.RowKit
set_option linter.unusedVariables false
set_option linter.unusedSimpArgs false

/-- A load of a whole row, within a region that reads alone, in every world of a class. -/
theorem quiet_load {P : Program} {o : Oper} {a : Act} {C : World → Prop} {next : Act → Prop} (ty : TypeId) (x : Operand) (ho : o.op = .load ty x) (g : Nat) (hx : a.eval x = .pointer (some ⟨g, 0, none⟩))
    (t : TypeId) (cs : Array Value) (fr : Nat × Nat) (d : TypeDesc) (hC : ∀ w, C w → w.heap[g]? = some (.cells cs t fr)) (hu : P.underlying ty = some d) (hd : (match d with | .struct _ | .array _ _ => true | _ => false) = true)
    (hi : (P.info? ty).map (·.size) = some cs.size) (h : next (a.put o.dst (.agg cs))) : o.quiet P a C next := by
  refine ⟨.agg cs, fun w hw => ?_, h⟩
  unfold Oper.quietAt execOp
  simp only [ho, hx, Instr.loadAt, Instr.sureAddr, Sem.run_bind, Sem.run_pure, Result.andThen_ok, run_loadVar_row w g t ty cs fr d (hC w hw) hu hd hi]
  exact ⟨rfl, rfl⟩
end Go.Proofs.YtpkopigiijiiiaaDoor
end
