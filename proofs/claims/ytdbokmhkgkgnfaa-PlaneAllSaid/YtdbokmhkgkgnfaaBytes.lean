/- WORDS FOR BYTES IN MEMORY, of our own: what it is that a slice value reads as a list of bytes, or is a row of the call's own; nothing of any program. -/
import Derived.WalkKit
import Derived.ProofKit
import Derived.OpenShut
import Derived.Below
import Derived.Laws.OwnMore
import Derived.Laws.AppendOwn
import Derived.Deep.AppendLies
import Derived.Deep.Draws
import Derived.Maps.AppendAt
import Derived.Lib.Hide
import Derived.OwnWalk
import Derived.Laws.CopyOwn
import Derived.Laws.MakeOwn
namespace Go.Proofs.Ytdbokmhkgkgnfaa
open Go.RowKit

/-- A byte as the model holds it. -/
abbrev bv (x : UInt8) : Value := .int .u8 (x.toNat : Int)
def bvs (l : List UInt8) : List Value := l.map bv

@[simp] theorem bvs_length (l : List UInt8) : (bvs l).length = l.length := by simp [bvs]
theorem bvs_append (l r : List UInt8) : bvs (l ++ r) = bvs l ++ bvs r := by simp [bvs]
theorem bvs_one (l : List UInt8) : ∀ u ∈ bvs l, u.oneCell' = true := by
  intro u hu
  simp only [bvs, List.mem_map] at hu
  obtain ⟨x, _, rfl⟩ := hu
  rfl

theorem bvs_get {m : List UInt8} {j : Nat} {u : Value} (h : (bvs m)[j]? = some u) : ∃ hj : j < m.length, u = bv m[j] := by
  simp only [bvs, List.getElem?_map, Option.map_eq_some_iff] at h
  obtain ⟨x, hx, rfl⟩ := h
  obtain ⟨hj, hv⟩ := List.getElem?_eq_some_iff.1 hx
  exact ⟨hj, by rw [hv]⟩

/-- The next world: what was there stands as it stood. -/
def Nx (w w' : World) : Prop := Below w.heap.size w w'
theorem Nx.refl (w : World) : Nx w w := Below.refl _ _
theorem Nx.trans {a b c : World} (h : Nx a b) (k : Nx b c) : Nx a c := Below.trans h (k.mono h.size)
theorem Nx.drew {a b : World} (h : Nx a b) : Nx a b.drew := Below.drew h
theorem Nx.drewN {a b : World} (h : Nx a b) (n : Nat) : Nx a (b.drewN n) := ⟨h.os, h.tape, h.output, h.size, h.block⟩
theorem Nx.alloc {a b : World} (h : Nx a b) (o : Obj) : Nx a (b.alloc o) := Below.alloc h h.size o
theorem Nx.size {a b : World} (h : Nx a b) : a.heap.size ≤ b.heap.size := Below.size h
theorem Nx.cell {a b : World} (h : Nx a b) {p : Addr} (hp : p.block < a.heap.size) : b.cell? p = a.cell? p := Below.cell h hp
theorem Nx.frozen {a b : World} (h : Nx a b) {p : Addr} (hp : p.block < a.heap.size) : b.frozen? p = a.frozen? p := Below.frozen h hp
theorem Nx.grown {a b c : World} {row : Option Nat} (h : Nx a b) (hg : b.grownBy c row) (hr : ∀ k, row = some k → a.heap.size ≤ k) : Nx a c := Below.grown h hg h.size hr

theorem Nx.app {a b c : World} (h : Nx a b) (k : Below a.heap.size b c) : Nx a c := Below.trans h k
theorem addr_add (b o i : Nat) : (Addr.add ⟨b, o, none⟩ i : Addr) = ⟨b, o + i, none⟩ := by unfold Addr.add; split <;> simp_all

/-- At the address A there stand the bytes l, one a cell. -/
def At (w : World) (A : Option Addr) (l : List UInt8) : Prop :=
  0 < l.length → ∃ b o, A = some ⟨b, o, none⟩ ∧ b < w.heap.size ∧ ∀ j (h : j < l.length), w.cell? ⟨b, o + j, none⟩ = some (bv l[j])

/-- The slice value v reads as the bytes l. -/
def Rd (w : World) (v : Value) (l : List UInt8) : Prop :=
  ∃ A c, v = .slice A l.length c ∧ l.length ≤ c ∧ c ≤ maxLen ∧ At w A l

theorem At.nx {w w' : World} {A : Option Addr} {l : List UInt8} (h : At w A l) (k : Nx w w') : At w' A l := fun hl => by
  obtain ⟨b, o, rfl, hb, hc⟩ := h hl
  exact ⟨b, o, rfl, Nat.lt_of_lt_of_le hb k.size, fun j hj => (k.cell (p := ⟨b, o + j, none⟩) hb).trans (hc j hj)⟩
theorem Rd.nx {w w' : World} {v : Value} {l : List UInt8} (h : Rd w v l) (k : Nx w w') : Rd w' v l := by
  obtain ⟨A, c, rfl, h1, h2, h3⟩ := h
  exact ⟨A, c, rfl, h1, h2, h3.nx k⟩
theorem Rd.drewN {w : World} {v : Value} {l : List UInt8} (h : Rd w v l) (n : Nat) : Rd (w.drewN n) v l := h.nx ((Nx.refl w).drewN n)
theorem Rd.drew {w : World} {v : Value} {l : List UInt8} (h : Rd w v l) : Rd w.drew v l := h.nx (Nx.refl w).drew
theorem Rd.alloc {w : World} {v : Value} {l : List UInt8} (h : Rd w v l) (o : Obj) : Rd (w.alloc o) v l := h.nx ((Nx.refl w).alloc o)

/-- The row's own words, as a list of bytes. -/
theorem At.of_cells {w : World} {b o : Nat} {l : List UInt8} (hb : b < w.heap.size) (h : ∀ j (h : j < l.length), w.cell? ⟨b, o + j, none⟩ = some (bv l[j])) : At w (some ⟨b, o, none⟩) l :=
  fun _ => ⟨b, o, rfl, hb, h⟩
theorem At.nil (w : World) (A : Option Addr) : At w A [] := fun h => absurd h (by simp)
theorem Rd.nil (w : World) : Rd w (.slice none 0 0) [] := ⟨none, 0, rfl, by simp, by simp [maxLen], At.nil _ _⟩

/-- A row of the call's own, from block B on, that holds the bytes l (and bytes alone behind them); or nil. -/
def Own (B : Nat) (w : World) (v : Value) (l : List UInt8) : Prop :=
  (v = .slice none 0 0 ∧ l = []) ∨
  ∃ (g : Nat) (full : List UInt8), v = .slice (some ⟨g, 0, none⟩) l.length full.length ∧ B ≤ g ∧ w.heap[g]? = some (.cells (bvs full).toArray 5 (0, 0)) ∧ l.length ≤ full.length ∧ full.length ≤ maxLen ∧ full.take l.length = l

theorem at_of_block {w : World} {g : Nat} {full : List UInt8} {n : Nat} (hh : w.heap[g]? = some (.cells (bvs full).toArray 5 (0, 0))) (_hn : n ≤ full.length) : At w (some ⟨g, 0, none⟩) (full.take n) := by
  have hlt : g < w.heap.size := (Array.getElem?_eq_some_iff.1 hh).1
  refine At.of_cells hlt fun j hj => ?_
  have hj' : j < full.length := by simp at hj; omega
  have hc : w.cell? ⟨g, 0 + j, none⟩ = (bvs full).toArray[0 + j]? := cell_of_row w g (0 + j) _ _ (0, 0) hh
  rw [hc, Nat.zero_add]
  simp [bvs, hj']

theorem Own.rd {B : Nat} {w : World} {v : Value} {l : List UInt8} (h : Own B w v l) : Rd w v l := by
  rcases h with ⟨rfl, rfl⟩ | ⟨g, full, rfl, hg, hh, hn, hm, ht⟩
  · exact Rd.nil w
  · have := at_of_block hh hn
    rw [ht] at this
    exact ⟨some ⟨g, 0, none⟩, full.length, rfl, hn, hm, this⟩

theorem Own.nx {B : Nat} {w w' : World} {v : Value} {l : List UInt8} (h : Own B w v l) (k : Nx w w') : Own B w' v l := by
  rcases h with h2 | ⟨g, full, rfl, hb, hg, rest⟩
  · exact .inl h2
  · exact .inr ⟨g, full, rfl, hb, by rw [k.block g (Array.getElem?_eq_some_iff.1 hg).1]; exact hg, rest⟩
theorem Own.drewN {B : Nat} {w : World} {v : Value} {l : List UInt8} (h : Own B w v l) (n : Nat) : Own B (w.drewN n) v l := h.nx ((Nx.refl w).drewN n)
theorem Own.drew {B : Nat} {w : World} {v : Value} {l : List UInt8} (h : Own B w v l) : Own B w.drew v l := h.nx (Nx.refl w).drew
theorem Own.alloc {B : Nat} {w : World} {v : Value} {l : List UInt8} (h : Own B w v l) (o : Obj) : Own B (w.alloc o) v l := h.nx ((Nx.refl w).alloc o)
theorem Own.mono {B B' : Nat} {w : World} {v : Value} {l : List UInt8} (h : Own B w v l) (hB : B' ≤ B) : Own B' w v l := by
  rcases h with h2 | ⟨g, full, rfl, hb, rest⟩
  · exact .inl h2
  · exact .inr ⟨g, full, rfl, Nat.le_trans hB hb, rest⟩
theorem Own.nil (B : Nat) (w : World) : Own B w (.slice none 0 0) [] := .inl ⟨rfl, rfl⟩
theorem Own.block {B : Nat} {w : World} {v : Value} {l : List UInt8} (h : Own B w v l) : ∀ k, v.ownBlock = some k → B ≤ k := by
  intro k hk
  rcases h with ⟨rfl, _⟩ | ⟨g, full, rfl, hb, _⟩
  · simp [Value.ownBlock] at hk
  · simp [Value.ownBlock] at hk
    omega

/-- One byte, newly laid. -/
theorem Rd.one (w : World) (z : Int) (x : UInt8) (t : TypeId) (h : z = (x.toNat : Int)) : Rd (w.alloc (.cells #[.int .u8 z] t)) (.slice (some ⟨w.heap.size, 0, none⟩) 1 1) [x] := by
  subst h
  refine ⟨some ⟨w.heap.size, 0, none⟩, 1, rfl, by simp, by simp [maxLen], At.of_cells (by simp) fun j hj => ?_⟩
  have hj0 : j = 0 := by simp at hj; omega
  subst hj0
  rw [World.cell?_alloc_at _ _ _ _ rfl]
  rfl

/-- A cut of a slice that reads. -/
theorem At.cut {w : World} {A : Option Addr} {l : List UInt8} (h : At w A l) {i j : Nat} (hij : i ≤ j) (hj : j ≤ l.length) {A' : Option Addr}
    (hA : ∀ b o, A = some ⟨b, o, none⟩ → i < j → A' = some ⟨b, o + i, none⟩) : At w A' ((l.drop i).take (j - i)) := fun hl => by
  simp only [List.length_take, List.length_drop] at hl
  obtain ⟨b, o, rfl, hb, hc⟩ := h (by omega)
  refine ⟨b, o + i, hA b o rfl (by omega), hb, fun k hk => ?_⟩
  simp only [List.length_take, List.length_drop] at hk
  have := hc (i + k) (by omega)
  rw [← Nat.add_assoc] at this
  rw [this]
  simp
theorem Rd.cut {w : World} {A : Option Addr} {c : Nat} {l : List UInt8} (h : At w A l) {i m : Nat} (hi : i + m ≤ l.length) (hm : m ≤ c) (hc : c ≤ maxLen) : Rd w (.slice (A.map (·.add i)) m c) ((l.drop i).take m) := by
  have hl : ((l.drop i).take m).length = m := by simp; omega
  refine ⟨A.map (·.add i), c, by rw [hl], by rw [hl]; exact hm, hc, ?_⟩
  have := h.cut (i := i) (j := i + m) (by omega) hi (A' := A.map (·.add i)) (fun b o hA _ => by subst hA; simp [addr_add])
  rwa [Nat.add_sub_cancel_left] at this
theorem Rd.pre {w : World} {A : Option Addr} {c : Nat} {l : List UInt8} (h : At w A l) {m : Nat} (hi : m ≤ l.length) (hm : m ≤ c) (hc : c ≤ maxLen) : Rd w (.slice A m c) (l.take m) := by
  have hl : (l.take m).length = m := by simp; omega
  refine ⟨A, c, by rw [hl], by rw [hl]; exact hm, hc, ?_⟩
  have := h.cut (i := 0) (j := m) (by omega) hi (A' := A) (fun b o hA _ => by subst hA; simp)
  simpa using this
theorem Rd.none0 (w : World) (A : Option Addr) (c : Nat) (hc : c ≤ maxLen) : Rd w (.slice A 0 c) [] := ⟨A, c, rfl, by simp, hc, At.nil _ _⟩

/-! ### append of bytes onto a row of the call's own -/
section
variable {P : Program}

/-- A new row: what a literal of bytes lays. -/
theorem Own.new (w : World) (l : List UInt8) (h : l.length ≤ maxLen) : Own w.heap.size (w.alloc (.cells (bvs l).toArray 5)) (.slice (some ⟨w.heap.size, 0, none⟩) l.length l.length) l :=
  .inr ⟨w.heap.size, l, rfl, Nat.le_refl _, heap_alloc_new w _, Nat.le_refl _, h, List.take_of_length_le (Nat.le_refl _)⟩

theorem Own.one (w : World) (z : Int) (x : UInt8) (h : z = (x.toNat : Int)) : Own w.heap.size (w.alloc (.cells #[.int .u8 z] 5)) (.slice (some ⟨w.heap.size, 0, none⟩) 1 1) [x] := by
  subst h
  exact Own.new w [x] (by simp [maxLen])

/-- A literal of bytes, newly laid. -/
theorem Rd.lit (w : World) (l : List UInt8) (cs : Array Value) (n g : Nat) (h : cs = (bvs l).toArray) (hn : n = l.length) (hm : l.length ≤ 1000) (hg : w.heap.size = g) : Rd (w.alloc (.cells cs 5)) (.slice (some ⟨g, 0, none⟩) n n) l := by
  subst h
  subst hg
  subst hn
  exact (Own.new w l (by simp only [maxLen]; omega)).rd

theorem Own.below {B : Nat} {w w' : World} {v : Value} {l : List UInt8} (hB : B ≤ w.heap.size) (hown : Own B w v l) (hg : w.grownBy w' v.ownBlock) : Below B w w' :=
  Below.grown (Below.refl _ _) hg hB hown.block

theorem zeroCells_bvs (k : Nat) : Builtin.zeroCells (Value.int .u8 0).cells k = (bvs (List.replicate k 0)).toArray := by
  apply Array.ext
  · simp [Builtin.zeroCells, Value.cells]
  · intro i h1 h2
    simp [Builtin.zeroCells, Value.cells, bvs, Nat.mod_one]

theorem app_run (w : World) (t ty : TypeId) (i : TypeInfo) (ht : P.underlying t = some (.slice 5)) (hi : P.info? 5 = some i) (hz : i.zero = some (.int .u8 0)) (hsize : i.size = 1) (hby : i.bytes = 1)
    (B : Nat) (v vx : Value) (l m : List UInt8) (hown : Own B w v l) (hr : Rd w vx m) (hlen : l.length + m.length ≤ 140737488355328) (hB : B ≤ w.heap.size) :
    ∃ v' w', (Builtin.append_ #[t, t] ty #[v, vx]).run P w = .ok v' w' ∧ Own B w' v' (l ++ m) ∧ w.grownBy w' v.ownBlock ∧ (v'.ownBlock = v.ownBlock ∨ v'.ownBlock = some w.heap.size) := by
  obtain ⟨A, c, rfl, hc, hm, ha⟩ := hr
  have hmx : l.length + m.length ≤ maxLen := by simp only [maxLen]; omega
  rcases A with _ | ad
  · have h0 : m.length = 0 := by
      rcases Nat.eq_zero_or_pos m.length with h | h
      · exact h
      · obtain ⟨b, o, h', _⟩ := ha h; cases h'
    obtain rfl : m = [] := List.eq_nil_of_length_eq_zero h0
    refine ⟨v, w, ?_, by simpa using hown, World.grownBy.refl w _, .inl rfl⟩
    rcases hown with ⟨rfl, rfl⟩ | ⟨g, full, rfl, _, _, hnc, _⟩
    · simp [Builtin.append_, run_underlying ht, sizeOf, typeInfo, hi, Builtin.lenOf, Builtin.firstCells]
    · simp [Builtin.append_, run_underlying ht, sizeOf, typeInfo, hi, Builtin.lenOf, Builtin.firstCells, hnc, storeCells]
  · have hnews : ∀ j u, (bvs m)[j]? = some u → w.cell? (ad.add j) = some u := fun j u hu => by
      obtain ⟨hj, rfl⟩ := bvs_get hu
      obtain ⟨b, o, he, hb, hcell⟩ := ha (by omega)
      obtain rfl : ad = ⟨b, o, none⟩ := by injection he
      rw [addr_add, hcell j hj]
    have grown : ∀ (old : Nat) (row : Option Nat), Own B (w.drew.alloc (.cells ((bvs l).toArray ++ (bvs m).toArray ++ Builtin.zeroCells (Value.int .u8 0).cells (grownCap w (l.length + m.length) old 5 - (l.length + m.length))) 5))
        (.slice (some ⟨w.heap.size, 0, none⟩) (l.length + m.length) (grownCap w (l.length + m.length) old 5)) (l ++ m) ∧
        w.grownBy (w.drew.alloc (.cells ((bvs l).toArray ++ (bvs m).toArray ++ Builtin.zeroCells (Value.int .u8 0).cells (grownCap w (l.length + m.length) old 5 - (l.length + m.length))) 5)) row := by
      intro old row
      have hge := grownCap_ge w (l.length + m.length) old 5
      have hcm := grownCap_le_maxLen w (l.length + m.length) old 5 hmx
      generalize grownCap w (l.length + m.length) old 5 = cp at *
      have hfl : (l ++ m ++ List.replicate (cp - (l.length + m.length)) (0 : UInt8)).length = cp := by simp; omega
      refine ⟨.inr ⟨w.heap.size, l ++ m ++ List.replicate (cp - (l.length + m.length)) 0, by rw [hfl, List.length_append], hB, ?_, by rw [hfl, List.length_append]; exact hge, by rw [hfl]; exact hcm, List.take_left⟩,
        ⟨rfl, rfl, rfl, by simp, fun k hk _ => heap_alloc_old _ _ hk⟩⟩
      rw [zeroCells_bvs]
      have := heap_alloc_new w.drew (.cells ((bvs l).toArray ++ (bvs m).toArray ++ (bvs (List.replicate (cp - (l.length + m.length)) 0)).toArray) 5)
      rw [bvs_append, bvs_append]
      simpa using this
    rcases hown with ⟨rfl, rfl⟩ | ⟨g, full, rfl, hbg, hg, hnc, hcm, htk⟩
    · by_cases h0 : m.length = 0
      · obtain rfl : m = [] := List.eq_nil_of_length_eq_zero h0
        refine ⟨.slice none 0 0, w, ?_, Own.nil _ _, World.grownBy.refl w _, .inl rfl⟩
        simp [Builtin.append_, run_underlying ht, sizeOf, typeInfo, hi, Builtin.lenOf, Builtin.firstCells, loadCells, loadCellsFrom]
      · have hrun := run_append_nil (P := P) w t ty 5 i (.int .u8 0) ht hi hz ad m.length c (bvs m) (by rw [hsize]; simp) hnews (by omega) (by omega) (by rw [hby]; simp at hlen; omega)
        have hgr := grown 0 (Value.ownBlock (.slice none 0 0))
        simp only [bvs, List.map_nil, List.length_nil, Nat.zero_add, List.nil_append] at hgr hrun ⊢
        simp only [show (#[] : Array Value) ++ (List.map bv m).toArray = (List.map bv m).toArray by simp] at hgr
        exact ⟨_, _, hrun, hgr.1, hgr.2, .inr rfl⟩
    · by_cases hroom : l.length + m.length ≤ full.length
      · have hrun := run_append_room (P := P) w t ty 5 i ht hi g l.length full.length (bvs full).toArray hg ad m.length c (bvs m) (by rw [hsize]; simp) hnews (bvs_one _) hroom (by rw [hsize]; simp; omega)
        rw [hsize] at hrun
        have hl2 : l ++ m ++ full.drop (l.length + m.length) = full.take l.length ++ m ++ full.drop (l.length + m.length) := by rw [htk]
        have hfl : (l ++ m ++ full.drop (l.length + m.length)).length = full.length := by simp; omega
        refine ⟨_, _, hrun, .inr ⟨g, l ++ m ++ full.drop (l.length + m.length), by rw [hfl, List.length_append], hbg, ?_, by rw [hfl, List.length_append]; exact hroom, by rw [hfl]; exact hcm, List.take_left⟩,
          ⟨rfl, rfl, rfl, by simp, fun k _ hk => setRow_other w g k _ (fun e => hk (by simp [Value.ownBlock, e]))⟩, .inl rfl⟩
        have := setRow_heap w g _ ((bvs full).toArray.toList.take (l.length * 1) ++ bvs m ++ (bvs full).toArray.toList.drop (l.length * 1 + (bvs m).length)).toArray _ _ hg
        rw [this, hl2]
        simp [bvs]
      · have holds : ∀ j u, (bvs l)[j]? = some u → w.cell? ((⟨g, 0, none⟩ : Addr).add j) = some u := fun j u hu => by
          obtain ⟨hj, rfl⟩ := bvs_get hu
          obtain ⟨b, o, he, hb, hcell⟩ := at_of_block hg hnc (by rw [htk]; omega)
          obtain ⟨rfl, rfl⟩ : g = b ∧ 0 = o := by simp at he; exact he
          have := hcell j (by rw [htk]; exact hj)
          rw [addr_add, this]
          simp [htk]
        have hrun := run_append_grow (P := P) w t ty 5 i (.int .u8 0) ht hi hz ⟨g, 0, none⟩ l.length full.length (bvs l) (by rw [hsize]; simp) holds ad m.length c (bvs m) (by rw [hsize]; simp) hnews (by omega) (by omega) (growslice_fits (by omega) (by rw [hby]; omega))
        have hgr := grown full.length (Value.ownBlock (.slice (some ⟨g, 0, none⟩) l.length full.length))
        exact ⟨_, _, hrun, hgr.1, hgr.2, .inr rfl⟩

theorem wpList_app {w : World} {ops : Array Oper} {rest : List Oper} {o : Oper} {a : Act} {Q : Exit → Act → World → Prop} (hgd : o.guard = none) (s x : Operand) (t : TypeId)
    (ho : o.op = .call { callee := .builtin .append, args := #[s, x], argTypes := #[t, t] })
    (ht : P.underlying t = some (.slice 5)) (hi : (P.info? 5).map (fun i => (i.zero, i.size, i.bytes)) = some (some (.int .u8 0), 1, 1))
    (B : Nat) (v vx : Value) (l m : List UInt8) (hs : a.eval s = v) (hx : a.eval x = vx) (hown : Own B w v l) (hr : Rd w vx m) (hlen : l.length + m.length ≤ 140737488355328) (hB : B ≤ w.heap.size)
    (h : ∀ v' w', Own B w' v' (l ++ m) → Below B w w' → w.grownBy w' v.ownBlock → wpList P ops Q rest (a.put o.dst v') w') : wpList P ops Q (o :: rest) a w := by
  refine wpList_plain hgd fun K hK => ?_
  obtain ⟨i, hi0, hz, hsz, hby⟩ := info_parts hi
  obtain ⟨v', w', hr, h2, h3, h5⟩ := app_run (P := P) w t o.type i ht hi0 hz hsz hby B v vx l m hown hr hlen hB
  unfold Oper.wp execOp
  simp only [ho, resolve, invoke, builtin, Sem.run_bind, Sem.run_pure, Result.andThen_ok, List.map_toArray, List.map_cons, List.map_nil, hs, hx, hr]
  exact hK _ _ (h v' w' h2 (Own.below hB hown h3) h3)

/-! ### make and copy of bytes -/
def zer (n : Nat) : Array Value := (bvs (List.replicate n 0)).toArray
theorem madeCells_zer (n : Nat) : madeCells #[.int .u8 0] n = zer n := by
  apply Array.ext
  · simp [madeCells, zer]
  · intro i h1 h2
    have hi : i < n := by simpa [madeCells] using h1
    simp only [madeCells, zer, bvs, List.getElem_toArray, Array.getElem_map, List.getElem_map, List.getElem_replicate]
    simp [Nat.mod_one]
theorem run_mk (t : TypeId) (ht : P.underlying t = some (.slice 5)) (hi : (P.info? 5).map (fun i => (i.zero, i.size, i.bytes)) = some (some (.int .u8 0), 1, 1)) (kl kc : IntKind) (n : Nat) (hn : n ≤ 281474976710656) (w : World) :
    (Instr.makeSlice t (.int kl (n : Int)) (.int kc (n : Int))).run P w = .ok (.slice (some ⟨w.heap.size, 0, none⟩) n n) (w.alloc (.cells (zer n) 5)) := by
  obtain ⟨i, hi0, hz, hsz, hby⟩ := info_parts hi
  have hb : (i.bytes : Int) * (n : Int) ≤ 281474976710656 := by rw [hby]; omega
  have := run_make (P := P) w t _ i _ ht hi0 hz kl kc n n (by omega) (by omega) hb (by omega)
  simp only [Int.toNat_natCast] at this
  rw [this, hsz, Nat.mul_one]
  show _ = Result.ok _ (w.alloc (.cells (zer n) _))
  rw [← madeCells_zer]
  rfl
def zeros (n : Nat) : List UInt8 := List.replicate n 0
theorem zeros_length (n : Nat) : (zeros n).length = n := by simp [zeros]
theorem Own.made (w : World) (n : Nat) (h : n ≤ maxLen) : Own w.heap.size (w.alloc (.cells (zer n) 5)) (.slice (some ⟨w.heap.size, 0, none⟩) n n) (zeros n) := by
  have := Own.new w (List.replicate n 0) (by simpa using h)
  simpa [zer, zeros] using this

theorem wpList_cpy {w : World} {ops : Array Oper} {rest : List Oper} {o : Oper} {a : Act} {Q : Exit → Act → World → Prop} (hgd : o.guard = none) (d s : Operand) (dT sT : TypeId)
    (ho : o.op = .call { callee := .builtin .copy, args := #[d, s], argTypes := #[dT, sT] }) (hu : P.underlying dT = some (.slice 5)) (hi : (P.info? 5).map (fun i => (i.zero, i.size, i.bytes)) = some (some (.int .u8 0), 1, 1))
    (B : Nat) (vd vs : Value) (ld ls : List UInt8) (hd : a.eval d = vd) (hs : a.eval s = vs) (hown : Own B w vd ld) (hr : Rd w vs ls)
    (h : ∀ w', Own B w' vd (ls.take ld.length ++ ld.drop ls.length) → w.grownBy w' vd.ownBlock → wpList P ops Q rest (a.put o.dst (goInt (Nat.min ls.length ld.length))) w') : wpList P ops Q (o :: rest) a w := by
  obtain ⟨i, hi0, hz, hsz, hby⟩ := info_parts hi
  have hsz' : (P.info? 5).map (·.size) = some 1 := by rw [hi0]; simp [hsz]
  obtain ⟨A, c, rfl, hc, hm, ha⟩ := hr
  by_cases h0 : Nat.min ls.length ld.length = 0
  · have hl : ls.take ld.length ++ ld.drop ls.length = ld := by
      rcases Nat.eq_zero_or_pos ls.length with e | e
      · obtain rfl : ls = [] := List.eq_nil_of_length_eq_zero e
        simp
      · have e2 : ld.length = 0 := by have := h0; simp only [Nat.min_def] at this; split at this <;> omega
        obtain rfl : ld = [] := List.eq_nil_of_length_eq_zero e2
        simp
    rw [h0] at h
    rcases hown with ⟨rfl, rfl⟩ | ⟨g, full, rfl, hg, hh, rest'⟩
    · exact wpList_copy_nothing hgd d s dT sT ho 5 hu hsz' none A 0 0 ls.length c hd hs (by simp) (h w (by rw [hl]; exact Own.nil _ _) (World.grownBy.refl w _))
    · exact wpList_copy_nothing hgd d s dT sT ho 5 hu hsz' _ A _ full.length ls.length c hd hs h0 (h w (by rw [hl]; exact .inr ⟨g, full, rfl, hg, hh, rest'⟩) (World.grownBy.refl w _))
  · have hpos : 0 < ls.length ∧ 0 < ld.length := by
      simp only [Nat.min_def] at h0
      split at h0 <;> omega
    obtain ⟨b, o', rfl, hb, hcell⟩ := ha hpos.1
    rcases hown with ⟨rfl, rfl⟩ | ⟨g, full, rfl, hg, hh, hnc, hcm, htk⟩
    · simp at hpos
    · have hlen : (bvs (ls.take ld.length)).length = Nat.min ls.length ld.length := by simp [Nat.min_def]; split <;> split <;> omega
      refine wpList_copy_own hgd d s dT sT ho 5 hu hsz' g 0 ld.length full.length ⟨b, o', none⟩ ls.length c hd hs _ _ hh (bvs (ls.take ld.length)) hlen ?_ ?_ (bvs_one _) ?_
      · intro j u hu'
        obtain ⟨hj, rfl⟩ := bvs_get hu'
        have hj' : j < ls.length := by simp at hj; omega
        rw [addr_add, hcell j hj']
        simp
      · have h1 : Nat.min ls.length ld.length ≤ ld.length := Nat.min_le_right _ _
        have h2 : (bvs full).toArray.size = full.length := by simp
        rw [hlen, Nat.zero_add, h2]
        exact Nat.le_trans h1 hnc
      · rw [hlen]
        have hmn : Nat.min ls.length ld.length ≤ ld.length := Nat.min_le_right _ _
        have hdr : ld.drop ls.length = ld.drop (Nat.min ls.length ld.length) := by
          rcases Nat.le_total ls.length ld.length with e | e
          · rw [show Nat.min ls.length ld.length = ls.length from Nat.min_eq_left e]
          · rw [show Nat.min ls.length ld.length = ld.length from Nat.min_eq_right e, List.drop_eq_nil_of_le e, List.drop_eq_nil_of_le (Nat.le_refl _)]
        generalize hmm : Nat.min ls.length ld.length = mn at *
        have htl : (ls.take ld.length).length = mn := by simpa using hlen
        have hL : (ls.take ld.length ++ ld.drop ls.length).length = ld.length := by
          rw [List.length_append, htl, hdr, List.length_drop]
          omega
        have hF : (ls.take ld.length ++ full.drop mn).length = full.length := by
          rw [List.length_append, htl, List.length_drop]
          omega
        refine h _ (.inr ⟨g, ls.take ld.length ++ full.drop mn, by rw [hL, hF], hg, ?_, by rw [hL, hF]; exact hnc, by rw [hF]; exact hcm, ?_⟩) ⟨rfl, rfl, rfl, by simp, fun k _ hne => setRow_other _ _ _ _ (fun e => hne (by simp [Value.ownBlock, e]))⟩
        · rw [setRow_heap _ _ _ _ _ _ hh]
          simp [bvs]
        · rw [hL, hdr, List.take_append, List.take_of_length_le (by rw [htl]; exact hmn), htl, ← List.drop_take, htk]

theorem wpList_cpy_all {w : World} {ops : Array Oper} {rest : List Oper} {o : Oper} {a : Act} {Q : Exit → Act → World → Prop} (hgd : o.guard = none) (d s : Operand) (dT sT : TypeId)
    (ho : o.op = .call { callee := .builtin .copy, args := #[d, s], argTypes := #[dT, sT] }) (hu : P.underlying dT = some (.slice 5)) (hi : (P.info? 5).map (fun i => (i.zero, i.size, i.bytes)) = some (some (.int .u8 0), 1, 1))
    (B : Nat) (vd vs : Value) (ld ls : List UInt8) (hd : a.eval d = vd) (hs : a.eval s = vs) (hown : Own B w vd ld) (hr : Rd w vs ls) (hl : ls.length = ld.length)
    (h : ∀ w', Own B w' vd ls → w.grownBy w' vd.ownBlock → wpList P ops Q rest (a.put o.dst (goInt ls.length)) w') : wpList P ops Q (o :: rest) a w := by
  refine wpList_cpy hgd d s dT sT ho hu hi B vd vs ld ls hd hs hown hr fun w' h1 h2 => ?_
  rw [← hl, List.take_of_length_le (Nat.le_refl _), List.drop_eq_nil_of_le (by omega), List.append_nil] at h1
  rw [← hl, show Nat.min ls.length ls.length = ls.length from Nat.min_self _]
  exact h w' h1 h2
end


/-! ### a row that is written, byte by byte -/
theorem blk_cell {w : World} {g : Nat} {full : List UInt8} (h : w.heap[g]? = some (.cells (bvs full).toArray 5 (0, 0))) {k : Nat} (hk : k < full.length) : w.cell? ⟨g, k, none⟩ = some (bv full[k]) := by
  have hc : w.cell? ⟨g, k, none⟩ = (bvs full).toArray[k]? := cell_of_row w g k _ _ (0, 0) h
  rw [hc]
  simp [bvs, hk]
theorem blk_frozen {w : World} {g : Nat} {cs : Array Value} {t : TypeId} (h : w.heap[g]? = some (.cells cs t (0, 0))) (k : Nat) : w.frozen? ⟨g, k, none⟩ = false := by
  simp [World.frozen?, h]
theorem blk_set {w : World} {g : Nat} {full : List UInt8} (h : w.heap[g]? = some (.cells (bvs full).toArray 5 (0, 0))) (k : Nat) (x : UInt8) : (w.setCell ⟨g, k, none⟩ (bv x)).heap[g]? = some (.cells (bvs (full.set k x)).toArray 5 (0, 0)) := by
  simp [World.setCell, Array.getElem?_modify, h, bvs, List.map_set]
theorem Below.blk {B g : Nat} {w w' : World} {o : Obj} (hb : Below B w w') (hg : g < B) (h : w.heap[g]? = some o) : w'.heap[g]? = some o := (hb.block g hg).trans h
theorem Nx.blk {w w' : World} {g : Nat} {o : Obj} (hb : Nx w w') (h : w.heap[g]? = some o) : w'.heap[g]? = some o := (hb.block g (Array.getElem?_eq_some_iff.1 h).1).trans h
theorem take_set_snoc {α : Type} (l : List α) (k : Nat) (x : α) (h : k < l.length) : (l.set k x).take (k + 1) = l.take k ++ [x] := by
  rw [List.take_succ_eq_append_getElem (by simpa using h)]
  simp [List.take_set_of_le]

end Go.Proofs.Ytdbokmhkgkgnfaa
