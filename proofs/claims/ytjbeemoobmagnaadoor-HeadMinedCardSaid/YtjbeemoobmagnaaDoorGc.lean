/- TEXTS OF OUR OWN, IN ONE FILE. -/
import Derived.Test.YtjbeemoobmagnaaDoorGb
import Derived.Test.YtjbeemoobmagnaaDoorGa
import Derived.Test.YtjbeemoobmagnaaDoorRows
import Derived.LoopTactic
import Derived.Outline
import Derived.Deep.QuietTactic
import Derived.BigQuiet
import Derived.Deep.Slices
section
namespace Go.Proofs.YtjbeemoobmagnaaDoor
open Go Go.RowKit
set_option linter.unusedVariables false
set_option linter.unusedSimpArgs false
set_option linter.unusedVariables false
set_option linter.unusedSimpArgs false

/-- The cells of a head. -/
def hdl (p r : List UInt8) (t b n : Nat) : List Value := bvs p ++ (bvs r ++ [.int .u32 (t : Int), .int .u32 (b : Int), .int .u32 (n : Int)])
def hdc (p r : List UInt8) (t b n : Nat) : Array Value := (hdl p r t b n).toArray
def Z32 : List UInt8 := List.replicate 32 0
theorem Z32_length : Z32.length = 32 := List.length_replicate
section
variable (p r : List UInt8) (t b n : Nat)
theorem hd_size (hp : p.length = 32) (hr : r.length = 32) : (hdc p r t b n).size = 67 := by simp [hdc, hdl, bvs, hp, hr]
theorem hd_p (j : Nat) (hj : j < p.length) : (hdc p r t b n)[j]? = some (bv p[j]) := by
  simp [hdc, hdl, bvs, hj, List.getElem?_append_left]
theorem hd_r (hp : p.length = 32) (j : Nat) (hj : j < r.length) : (hdc p r t b n)[32 + j]? = some (bv r[j]) := by
  simp [hdc, hdl, bvs, hp, hj, List.getElem?_append_left, List.getElem?_append_right]
theorem hd_t (hp : p.length = 32) (hr : r.length = 32) : (hdc p r t b n)[64]? = some (.int .u32 (t : Int)) := by
  simp [hdc, hdl, bvs, hp, hr, List.getElem?_append_right]
theorem hd_b (hp : p.length = 32) (hr : r.length = 32) : (hdc p r t b n)[65]? = some (.int .u32 (b : Int)) := by
  simp [hdc, hdl, bvs, hp, hr, List.getElem?_append_right]
theorem hd_n (hp : p.length = 32) (hr : r.length = 32) : (hdc p r t b n)[66]? = some (.int .u32 (n : Int)) := by
  simp [hdc, hdl, bvs, hp, hr, List.getElem?_append_right]
theorem hd_one : (hdc p r t b n).all (·.oneCell') = true := by
  rw [Array.all_eq_true']
  intro x hx
  simp only [hdc, hdl, List.mem_toArray, List.mem_append, List.mem_cons, List.not_mem_nil, or_false] at hx
  rcases hx with h | h | rfl | rfl | rfl
  · exact bvs_one p x h
  · exact bvs_one r x h
  · rfl
  · rfl
  · rfl
end
theorem info_head : (Tryd.prog.info? 32).map (fun i => (i.zero, i.size)) = some (some (.agg (hdc Z32 Z32 0 0 0)), 67) := by kernel_rfl
theorem headsz (p r : List UInt8) (t b n : Nat) (hp : p.length = 32) (hr : r.length = 32) : (Tryd.prog.info? 32).map (·.size) = some (hdc p r t b n).size := by
  rw [hd_size p r t b n hp hr]; kernel_rfl
theorem headsame (p r q s : List UInt8) (t b n t' b' n' : Nat) (hp : p.length = 32) (hr : r.length = 32) (hq : q.length = 32) (hs : s.length = 32) : (hdc p r t b n).size = (hdc q s t' b' n').size := by rw [hd_size _ _ _ _ _ hp hr, hd_size _ _ _ _ _ hq hs]
theorem hd_rdp {w : World} {g : Nat} {p r : List UInt8} {t b n : Nat} {T : TypeId} (h : Row w g (hdc p r t b n) T) (hp : p.length = 32) : Rd w (.slice (some ⟨g, 0, none⟩) 32 32) p :=
  ⟨some ⟨g, 0, none⟩, 32, by rw [hp], by omega, by simp only [maxLen]; omega, At.of_cells h.lt fun j hj => by rw [Nat.zero_add]; exact h.cell (hd_p p r t b n j hj)⟩
theorem hd_rdr {w : World} {g : Nat} {p r : List UInt8} {t b n : Nat} {T : TypeId} (h : Row w g (hdc p r t b n) T) (hp : p.length = 32) (hr : r.length = 32) : Rd w (.slice (some ⟨g, 32, none⟩) 32 32) r :=
  ⟨some ⟨g, 32, none⟩, 32, by rw [hr], by omega, by simp only [maxLen]; omega, At.of_cells h.lt fun j hj => h.cell (hd_r p r t b n hp j hj)⟩
/-- A cut of an array that stands within a block. -/
theorem slice_arr_at {P : Program} (t e : TypeId) (n : Nat) (ht : P.underlying t = some (.array n e)) (hsz : ∀ w, (sizeOf e).run P w = .ok 1 w) (g k : Nat) (h3 : 0 < n) (w : World) :
    (Instr.sliceAt t (.pointer (some ⟨g, k, none⟩)) none none none).run P w = .ok (.slice (some ⟨g, k, none⟩) n n) w := by
  have e1 : ¬ (n = 0) := by omega
  simp [Instr.sliceAt, Instr.sureAddr, run_underlying ht, Instr.sliceBounds, run_sliceBound, hsz, e1, addr_add]
theorem hc_asInts (h : List UInt8) : (bvs h).toArray = ints .u8 (h.map fun x => (x.toNat : Int)) := by
  simp [ints, bvs, Function.comp_def]
set_option maxRecDepth 100000 in
set_option maxHeartbeats 4000000 in
theorem eq_head (p r q s : List UInt8) (t b n t' b' n' : Nat) (hp : p.length = 32) (hr : r.length = 32) (hq : q.length = 32) (hs : s.length = 32) (w : World) :
    (Op.equalIn 10000 32 (.agg (hdc p r t b n)) (.agg (hdc q s t' b' n'))).run Tryd.prog w = .ok (decide (p = q) && (decide (r = s) && (decide (t = t') && (decide (b = b') && decide (n = n'))))) w := by
  have hn : ∀ a b : Nat, ((a : Int) == (b : Int)) = decide (a = b) := fun a b => by rw [Bool.eq_iff_iff, beq_iff_eq, decide_eq_true_iff]; omega
  have hag : ∀ w, (isAgg 30).run Tryd.prog w = .ok true w := fun w => by kernel_rfl
  have hsz : ∀ w, (sizeOf 30).run Tryd.prog w = .ok 32 w := fun w => by kernel_rfl
  have ha32 : ∀ w, (isAgg 22).run Tryd.prog w = .ok false w := fun w => by kernel_rfl
  have ex : ∀ (p r : List UInt8) (t b n : Nat), p.length = 32 → (hdc p r t b n).extract 0 32 = (bvs p).toArray := fun p r t b n hp => by
    simp [hdc, hdl, List.extract_toArray, List.take_append, bvs_length, hp, List.take_of_length_le (Nat.le_of_eq (show (bvs p).length = 32 by rw [bvs_length, hp]))]
  have ex2 : ∀ (p r : List UInt8) (t b n : Nat), p.length = 32 → r.length = 32 → (hdc p r t b n).extract 32 64 = (bvs r).toArray := fun p r t b n hp hr => by
    have e1 : (bvs p).length = 32 := by rw [bvs_length, hp]
    have e2 : (bvs r).length = 32 := by rw [bvs_length, hr]
    simp only [hdc, hdl, List.extract_toArray, List.extract_eq_take_drop]
    rw [List.drop_left' e1, List.take_left' e2]
  have p1 : ∀ (p r : List UInt8) (t b n : Nat) (w : World), p.length = 32 → r.length = 32 → (part 30 (hdc p r t b n) 0).run Tryd.prog w = .ok (.agg (bvs p).toArray) w := fun p r t b n w hp hr => by
    simp [part, hag, hsz, Sem.run_bind, ex p r t b n hp, hd_size p r t b n hp hr]
  have p2 : ∀ (p r : List UInt8) (t b n : Nat) (w : World), p.length = 32 → r.length = 32 → (part 30 (hdc p r t b n) 32).run Tryd.prog w = .ok (.agg (bvs r).toArray) w := fun p r t b n w hp hr => by
    simp [part, hag, hsz, Sem.run_bind, ex2 p r t b n hp hr, hd_size p r t b n hp hr]
  have p3 : ∀ (p r : List UInt8) (t b n : Nat) (w : World), p.length = 32 → r.length = 32 → (part 22 (hdc p r t b n) 64).run Tryd.prog w = .ok (.int .u32 t) w := fun p r t b n w hp hr => by
    simp [part, ha32, Sem.run_bind, hd_t p r t b n hp hr]
  have p4 : ∀ (p r : List UInt8) (t b n : Nat) (w : World), p.length = 32 → r.length = 32 → (part 22 (hdc p r t b n) 65).run Tryd.prog w = .ok (.int .u32 b) w := fun p r t b n w hp hr => by
    simp [part, ha32, Sem.run_bind, hd_b p r t b n hp hr]
  have p5 : ∀ (p r : List UInt8) (t b n : Nat) (w : World), p.length = 32 → r.length = 32 → (part 22 (hdc p r t b n) 66).run Tryd.prog w = .ok (.int .u32 n) w := fun p r t b n w hp hr => by
    simp [part, ha32, Sem.run_bind, hd_n p r t b n hp hr]
  have e1 : ∀ (x y : List UInt8) (w : World), x.length = 32 → y.length = 32 → (Op.equalIn 9999 30 (.agg (bvs x).toArray) (.agg (bvs y).toArray)).run Tryd.prog w = .ok (decide (x = y)) w := fun x y w hx hy => by
    have := eq_ints (P := Tryd.prog) 9997 30 5 32 .u8 Tryd.underlying30 Tryd.underlying5 Tryd.isAgg5 Tryd.sizeOf5 (x.map fun x => (x.toNat : Int)) (y.map fun x => (x.toNat : Int)) (by simp [hx]) (by simp [hy]) w
    rw [← hc_asInts, ← hc_asInts] at this
    rw [this]
    congr 1
    rw [Bool.eq_iff_iff]
    simp only [decide_eq_true_eq]
    constructor
    · intro h
      have h2 : (x.map fun x => (x.toNat : Int)).map (fun z : Int => UInt8.ofNat z.toNat) = (y.map fun x => (x.toNat : Int)).map (fun z : Int => UInt8.ofNat z.toNat) := by rw [h]
      simpa [List.map_map, Function.comp_def] using h2
    · rintro rfl; rfl
  rw [run_equalIn_struct w 9999 32 _ _ (by kernel_rfl) (by kernel_rfl)]
  simp only [Program.fieldsOf, Tryd.underlying32, Op.eqFields]
  have e3 : ∀ (x y : Nat) (w : World), (Op.equalIn 9999 22 (.int .u32 x) (.int .u32 y)).run Tryd.prog w = .ok (decide (x = y)) w := fun x y w => by
    rw [run_equalIn_int w 9998 22 .u32 .u32 _ _ Tryd.underlying22, hn]
  simp only [Sem.run_ite, Sem.run_bind, p1 p r t b n _ hp hr, p1 q s t' b' n' _ hq hs, p2 p r t b n _ hp hr, p2 q s t' b' n' _ hq hs, p3 p r t b n _ hp hr, p3 q s t' b' n' _ hq hs, p4 p r t b n _ hp hr, p4 q s t' b' n' _ hq hs, p5 p r t b n _ hp hr, p5 q s t' b' n' _ hq hs, e1 p q _ hp hq, e1 r s _ hr hs, e3, Result.andThen_ok, Sem.run_pure, ne_eq, String.reduceEq, not_false_eq_true, if_true]
  rcases decide (p = q) with _ | _ <;> rcases decide (r = s) with _ | _ <;> rcases decide (t = t') with _ | _ <;> rcases decide (b = b') with _ | _ <;> rcases decide (n = n') with _ | _ <;> rfl
end Go.Proofs.YtjbeemoobmagnaaDoor
end

section
namespace Go.Proofs.YtjbeemoobmagnaaDoor
open Go.RowKit

set_option maxHeartbeats 400000 in
/-- Same of two slices that read alike: true. -/
theorem same_yes (v1 v2 : Value) (l : List UInt8) (w : World) (h1 : Rd w v1 l) (h2 : Rd w v2 l) :
    Calls Tryd.prog 17 #[v1, v2] w fun e w' => e = .returned (.bool true) ∧ Nx w w' := by
  obtain ⟨A1, c1, rfl, hc1, hm1, ha1⟩ := h1
  obtain ⟨A2, c2, rfl, hc2, hm2, ha2⟩ := h2
  unfold maxLen at hm1
  have hne : ((l.length : Int) != (l.length : Int)) = false := by simp
  go_enter Tryd.func17, Tryd.ntmps17
  go_wp2
  go_loopw [5] (fun i wr => ∃ k : Nat, k ≤ l.length ∧ i = .int .i64 k ∧ ∃ n, wr = w.drewN n) (fun i _ => l.length - (intOf i).toNat)
  case atStart => exact ⟨0, by omega, rfl, 0, rfl⟩
  case round =>
    obtain ⟨k, hk, rfl, n, rfl⟩ := hrel
    by_cases hlt : k < l.length
    · obtain ⟨b1, o1, rfl, hb1, hc1⟩ := ha1 (by omega)
      obtain ⟨b2, o2, rfl, hb2, hc2⟩ := ha2 (by omega)
      have g1 := hc1 k hlt
      have g2 := hc2 k hlt
      clear hc1 hc2 hne
      have hlt' : (k : Int) < (l.length : Int) := by omega
      have hne2 : ((l[k].toNat : Int) != (l[k].toNat : Int)) = false := by simp
      go_wp2
      go_quiet (fail)
      go_wp2
      go_roundw
      case rel => exact ⟨k + 1, by omega, by go_num, _, rfl⟩
      case measure => simp [intOf]; omega
    · go_wp2
      go_ret
      exact ⟨rfl, (Nx.refl w).drewN n⟩

theorem first_apart {l1 l2 : List UInt8} (hl : l1.length = l2.length) (hne : l1 ≠ l2) : ∀ k, k ≤ l1.length → l1.take k = l2.take k → k < l1.length := by
  intro k hk he
  rcases Nat.lt_or_ge k l1.length with h | h
  · exact h
  · have hk' : k = l1.length := by omega
    subst hk'
    rw [List.take_of_length_le (Nat.le_refl _), hl, List.take_of_length_le (Nat.le_refl _)] at he
    exact absurd he hne

set_option maxHeartbeats 400000 in
/-- Same of two slices that do not read alike: false. -/
theorem same_no (v1 v2 : Value) (l1 l2 : List UInt8) (w : World) (h1 : Rd w v1 l1) (h2 : Rd w v2 l2) (hne : l1 ≠ l2) :
    Calls Tryd.prog 17 #[v1, v2] w fun e w' => e = .returned (.bool false) ∧ Nx w w' := by
  obtain ⟨A1, c1, rfl, hc1, hm1, ha1⟩ := h1
  obtain ⟨A2, c2, rfl, hc2, hm2, ha2⟩ := h2
  unfold maxLen at hm1
  by_cases hl : l1.length = l2.length
  · have hle : ((l1.length : Int) != (l2.length : Int)) = false := by simp [hl]
    have HF := Lib.hid (first_apart hl hne)
    have HL := Lib.hid hl
    have hl1 : l1.length ≤ l2.length := by omega
    clear hl hne
    go_enter Tryd.func17, Tryd.ntmps17
    go_wp2
    go_loopw [5] (fun i wr => ∃ k : Nat, k ≤ l1.length ∧ i = .int .i64 k ∧ Hid (l1.take k = l2.take k) ∧ ∃ n, wr = w.drewN n) (fun i _ => l1.length - (intOf i).toNat)
    case atStart => exact ⟨0, by omega, rfl, show _ = _ by simp, 0, rfl⟩
    case round =>
      obtain ⟨k, hk, rfl, HE, n, rfl⟩ := hrel
      have hlt := HF.out k hk HE.out
      obtain ⟨b1, o1, rfl, hb1, hc1⟩ := ha1 (by omega)
      obtain ⟨b2, o2, rfl, hb2, hc2⟩ := ha2 (by omega)
      have g1 := hc1 k hlt
      have g2 := hc2 k (by omega)
      clear hc1 hc2 hle ha1 ha2
      have hlt' : (k : Int) < (l1.length : Int) := by omega
      have hlt2 : (k : Int) < (l2.length : Int) := by omega
      by_cases hx : l1[k] = l2[k]
      · have hne2 : ((l1[k].toNat : Int) != (l2[k].toNat : Int)) = false := by rw [hx]; simp
        have HX := Lib.hid hx
        clear hx
        go_wp2
        go_quiet (fail)
        go_wp2
        go_roundw
        case rel => exact ⟨k + 1, by omega, by go_num, show _ = _ by rw [List.take_succ_eq_append_getElem hlt, List.take_succ_eq_append_getElem (by omega), HE.out, HX.out], _, rfl⟩
        case measure => simp [intOf]; omega
      · have hne2 : ((l1[k].toNat : Int) != (l2[k].toNat : Int)) = true := by
          have : l1[k].toNat ≠ l2[k].toNat := fun e => hx (UInt8.toNat_inj.1 e)
          rw [bne_iff_ne]; omega
        clear hx
        go_wp2
        go_quiet (fail)
        go_wp2
        go_ret
        exact ⟨rfl, by first | exact ((Nx.refl w).drewN _).drewN _ | exact (Nx.refl w).drewN _⟩
  · have hle : ((l1.length : Int) != (l2.length : Int)) = true := by rw [bne_iff_ne]; omega
    clear hl
    go_enter Tryd.func17, Tryd.ntmps17
    go_wp2
    go_ret
    exact ⟨rfl, Nx.refl w⟩
end Go.Proofs.YtjbeemoobmagnaaDoor
end

section
namespace Go.Proofs.YtjbeemoobmagnaaDoor
open Go Go.RowKit
set_option linter.unusedVariables false
set_option linter.unusedSimpArgs false
set_option linter.unusedVariables false
set_option linter.unusedSimpArgs false

/-- The slice v holds the cells vs. -/
def RdC (w : World) (v : Value) (vs : List Value) : Prop :=
  ∃ A c, v = .slice A vs.length c ∧ vs.length ≤ c ∧ c ≤ maxLen ∧ (∀ u ∈ vs, u.oneCell' = true) ∧ (0 < vs.length → ∃ b o, A = some ⟨b, o, none⟩ ∧ b < w.heap.size ∧ ∀ j (h : j < vs.length), w.cell? ⟨b, o + j, none⟩ = some vs[j])
/-- A row of the call's own, of elements of type E, from block B on, that holds the cells vs; or nil. -/
def OwnC (E : TypeId) (B : Nat) (w : World) (v : Value) (vs : List Value) : Prop :=
  (v = .slice none 0 0 ∧ vs = []) ∨
  ∃ (g : Nat) (full : List Value), v = .slice (some ⟨g, 0, none⟩) vs.length full.length ∧ B ≤ g ∧ w.heap[g]? = some (.cells full.toArray E (0, 0)) ∧ vs.length ≤ full.length ∧ full.length ≤ maxLen ∧ full.take vs.length = vs
theorem RdC.nil (w : World) : RdC w (.slice none 0 0) [] := ⟨none, 0, rfl, by simp, by simp [maxLen], by simp, by simp⟩
theorem RdC.nx {w w' : World} {v : Value} {vs : List Value} (h : RdC w v vs) (k : Nx w w') : RdC w' v vs := by
  obtain ⟨A, c, rfl, h1, h2, h3, h4⟩ := h
  refine ⟨A, c, rfl, h1, h2, h3, fun hp => ?_⟩
  obtain ⟨b, o, rfl, hb, hc⟩ := h4 hp
  exact ⟨b, o, rfl, Nat.lt_of_lt_of_le hb k.size, fun j hj => by rw [k.cell (p := ⟨b, o + j, none⟩) hb]; exact hc j hj⟩
theorem OwnC.nil (E : TypeId) (B : Nat) (w : World) : OwnC E B w (.slice none 0 0) [] := .inl ⟨rfl, rfl⟩
theorem OwnC.nx {E : TypeId} {B : Nat} {w w' : World} {v : Value} {vs : List Value} (h : OwnC E B w v vs) (k : Nx w w') : OwnC E B w' v vs := by
  rcases h with h2 | ⟨g, full, rfl, hb, hg, rest⟩
  · exact .inl h2
  · exact .inr ⟨g, full, rfl, hb, by rw [k.block g (Array.getElem?_eq_some_iff.1 hg).1]; exact hg, rest⟩
theorem OwnC.mono {E : TypeId} {B B' : Nat} {w : World} {v : Value} {vs : List Value} (h : OwnC E B w v vs) (hB : B' ≤ B) : OwnC E B' w v vs := by
  rcases h with h2 | ⟨g, full, rfl, hb, rest⟩
  · exact .inl h2
  · exact .inr ⟨g, full, rfl, Nat.le_trans hB hb, rest⟩
theorem OwnC.cellsAt {E : TypeId} {w : World} {g : Nat} {full vs : List Value} (hg : w.heap[g]? = some (.cells full.toArray E (0, 0))) (hn : vs.length ≤ full.length) (ht : full.take vs.length = vs) : ∀ j (h : j < vs.length), w.cell? ⟨g, j, none⟩ = some vs[j] := by
  intro j hj
  rw [cell_of_row w g j _ _ (0, 0) hg]
  have h1 : full[j]? = vs[j]? := by rw [← ht, List.getElem?_take_of_lt hj]
  simp only [List.getElem?_toArray, h1, List.getElem?_eq_getElem hj]
theorem OwnC.rd {E : TypeId} {B : Nat} {w : World} {v : Value} {vs : List Value} (h : OwnC E B w v vs) (h1 : ∀ u ∈ vs, u.oneCell' = true) : RdC w v vs := by
  rcases h with ⟨rfl, rfl⟩ | ⟨g, full, rfl, hg, hh, hn, hm, ht⟩
  · exact RdC.nil w
  · exact ⟨some ⟨g, 0, none⟩, full.length, rfl, hn, hm, h1, fun _ => ⟨g, 0, rfl, (Array.getElem?_eq_some_iff.1 hh).1, fun j hj => by rw [Nat.zero_add]; exact OwnC.cellsAt hh hn ht j hj⟩⟩
theorem OwnC.block {E : TypeId} {B : Nat} {w : World} {v : Value} {vs : List Value} (h : OwnC E B w v vs) : ∀ k, v.ownBlock = some k → B ≤ k ∧ k < w.heap.size := by
  intro k hk
  rcases h with ⟨rfl, _⟩ | ⟨g, full, rfl, hb, hg, _⟩
  · simp [Value.ownBlock] at hk
  · obtain rfl : g = k := by simpa [Value.ownBlock] using hk
    exact ⟨hb, (Array.getElem?_eq_some_iff.1 hg).1⟩
theorem OwnC.below {E : TypeId} {B : Nat} {w w' : World} {v : Value} {vs : List Value} (hB : B ≤ w.heap.size) (hown : OwnC E B w v vs) (hg : w.grownBy w' v.ownBlock) : Below B w w' :=
  Below.grown (Below.refl _ _) hg hB fun k hk => (hown.block k hk).1

theorem zeroCells_one (z : Value) (hz : z.cells = #[z]) (k : Nat) : Builtin.zeroCells z.cells k = (List.replicate k z).toArray := by
  apply Array.ext
  · simp [Builtin.zeroCells, hz]
  · intro i h1 h2
    simp [Builtin.zeroCells, hz, Nat.mod_one]

section
variable {P : Program}
theorem appC_run (w : World) (t ty E : TypeId) (i : TypeInfo) (z : Value) (by' : Nat) (ht : P.underlying t = some (.slice E)) (hi : P.info? E = some i) (hz : i.zero = some z) (hzc : z.cells = #[z]) (hsize : i.size = 1) (hby : i.bytes = by')
    (B : Nat) (v vx : Value) (vs us : List Value) (hown : OwnC E B w v vs) (hr : RdC w vx us) (hlen : (vs.length + us.length) * by' ≤ 140737488355328) (hmx : vs.length + us.length ≤ maxLen) (hB : B ≤ w.heap.size) :
    ∃ v' w', (Builtin.append_ #[t, t] ty #[v, vx]).run P w = .ok v' w' ∧ OwnC E B w' v' (vs ++ us) ∧ w.grownBy w' v.ownBlock ∧ (v'.ownBlock = v.ownBlock ∨ v'.ownBlock = some w.heap.size) := by
  obtain ⟨A, c, rfl, hc, hm, h1, ha⟩ := hr
  subst hby
  have h63 : ((vs.length + us.length : Nat) : Int) ≤ 9223372036854775807 := by simp only [maxLen] at hmx; omega
  rcases A with _ | ad
  · have h0 : us.length = 0 := by
      rcases Nat.eq_zero_or_pos us.length with h | h
      · exact h
      · obtain ⟨b, o, h', _⟩ := ha h; cases h'
    obtain rfl : us = [] := List.eq_nil_of_length_eq_zero h0
    refine ⟨v, w, ?_, by simpa using hown, World.grownBy.refl w _, .inl rfl⟩
    rcases hown with ⟨rfl, rfl⟩ | ⟨g, full, rfl, _, _, hnc, _⟩
    · simp [Builtin.append_, run_underlying ht, sizeOf, typeInfo, hi, Builtin.lenOf, Builtin.firstCells]
    · simp [Builtin.append_, run_underlying ht, sizeOf, typeInfo, hi, Builtin.lenOf, Builtin.firstCells, hnc, storeCells]
  · have hnews : ∀ j u, us[j]? = some u → w.cell? (ad.add j) = some u := fun j u hu => by
      obtain ⟨hj, rfl⟩ := List.getElem?_eq_some_iff.1 hu
      obtain ⟨b, o, he, hb, hcell⟩ := ha (by omega)
      obtain rfl : ad = ⟨b, o, none⟩ := by injection he
      rw [addr_add, hcell j hj]
    have grown : ∀ (old : Nat) (row : Option Nat), OwnC E B (w.drew.alloc (.cells (vs.toArray ++ us.toArray ++ Builtin.zeroCells z.cells (grownCap w (vs.length + us.length) old E - (vs.length + us.length))) E))
        (.slice (some ⟨w.heap.size, 0, none⟩) (vs.length + us.length) (grownCap w (vs.length + us.length) old E)) (vs ++ us) ∧
        w.grownBy (w.drew.alloc (.cells (vs.toArray ++ us.toArray ++ Builtin.zeroCells z.cells (grownCap w (vs.length + us.length) old E - (vs.length + us.length))) E)) row := by
      intro old row
      have hge := grownCap_ge w (vs.length + us.length) old E
      have hcm := grownCap_le_maxLen w (vs.length + us.length) old E hmx
      generalize grownCap w (vs.length + us.length) old E = cp at *
      have hfl : (vs ++ us ++ List.replicate (cp - (vs.length + us.length)) z).length = cp := by simp; omega
      refine ⟨.inr ⟨w.heap.size, vs ++ us ++ List.replicate (cp - (vs.length + us.length)) z, by rw [hfl, List.length_append], hB, ?_, by rw [hfl, List.length_append]; exact hge, by rw [hfl]; exact hcm, List.take_left⟩,
        ⟨rfl, rfl, rfl, by simp, fun k hk _ => heap_alloc_old _ _ hk⟩⟩
      rw [zeroCells_one z hzc]
      have e : (vs ++ us ++ List.replicate (cp - (vs.length + us.length)) z).toArray = vs.toArray ++ us.toArray ++ (List.replicate (cp - (vs.length + us.length)) z).toArray := by apply Array.ext'; simp
      rw [e]
      exact heap_alloc_new w.drew (.cells (vs.toArray ++ us.toArray ++ (List.replicate (cp - (vs.length + us.length)) z).toArray) E)
    rcases hown with ⟨rfl, rfl⟩ | ⟨g, full, rfl, hbg, hg, hnc, hcm, htk⟩
    · by_cases h0 : us.length = 0
      · obtain rfl : us = [] := List.eq_nil_of_length_eq_zero h0
        refine ⟨.slice none 0 0, w, ?_, OwnC.nil _ _ _, World.grownBy.refl w _, .inl rfl⟩
        simp [Builtin.append_, run_underlying ht, sizeOf, typeInfo, hi, Builtin.lenOf, Builtin.firstCells, loadCells, loadCellsFrom]
      · have hrun := run_append_nil (P := P) w t ty E i z ht hi hz ad us.length c us (by rw [hsize]; simp) hnews (by omega) (by simpa using h63) (by simp at hlen; omega)
        have hgr := grown 0 (Value.ownBlock (.slice none 0 0))
        simp only [List.length_nil, Nat.zero_add, List.nil_append] at hgr hrun ⊢
        simp only [show (#[] : Array Value) ++ us.toArray = us.toArray by simp] at hgr
        exact ⟨_, _, hrun, hgr.1, hgr.2, .inr rfl⟩
    · by_cases hroom : vs.length + us.length ≤ full.length
      · have hrun := run_append_room (P := P) w t ty E i ht hi g vs.length full.length full.toArray hg ad us.length c us (by rw [hsize]; simp) hnews h1 hroom (by rw [hsize]; simp; omega)
        rw [hsize] at hrun
        have hl2 : vs ++ us ++ full.drop (vs.length + us.length) = full.take vs.length ++ us ++ full.drop (vs.length + us.length) := by rw [htk]
        have hfl : (vs ++ us ++ full.drop (vs.length + us.length)).length = full.length := by simp; omega
        refine ⟨_, _, hrun, .inr ⟨g, vs ++ us ++ full.drop (vs.length + us.length), by rw [hfl, List.length_append], hbg, ?_, by rw [hfl, List.length_append]; exact hroom, by rw [hfl]; exact hcm, List.take_left⟩,
          ⟨rfl, rfl, rfl, by simp, fun k _ hk => setRow_other w g k _ (fun e => hk (by simp [Value.ownBlock, e]))⟩, .inl rfl⟩
        have := setRow_heap w g _ (full.toArray.toList.take (vs.length * 1) ++ us ++ full.toArray.toList.drop (vs.length * 1 + us.length)).toArray _ _ hg
        rw [this, hl2]
        simp
      · have holds : ∀ j u, vs[j]? = some u → w.cell? ((⟨g, 0, none⟩ : Addr).add j) = some u := fun j u hu => by
          obtain ⟨hj, rfl⟩ := List.getElem?_eq_some_iff.1 hu
          rw [addr_add, Nat.zero_add]
          exact OwnC.cellsAt hg hnc htk j hj
        have hrun := run_append_grow (P := P) w t ty E i z ht hi hz ⟨g, 0, none⟩ vs.length full.length vs (by rw [hsize]; simp) holds ad us.length c us (by rw [hsize]; simp) hnews (by omega) h63 (growslice_fits (by omega) hlen)
        have hgr := grown full.length (Value.ownBlock (.slice (some ⟨g, 0, none⟩) vs.length full.length))
        exact ⟨_, _, hrun, hgr.1, hgr.2, .inr rfl⟩
theorem wpList_appC {w : World} {ops : Array Oper} {rest : List Oper} {o : Oper} {a : Act} {Q : Exit → Act → World → Prop} (hgd : o.guard = none) (s x : Operand) (t : TypeId)
    (ho : o.op = .call { callee := .builtin .append, args := #[s, x], argTypes := #[t, t] })
    (E : TypeId) (z : Value) (by' : Nat) (ht : P.underlying t = some (.slice E)) (hi : (P.info? E).map (fun i => (i.zero, i.size, i.bytes)) = some (some z, 1, by')) (hzc : z.cells = #[z])
    (B : Nat) (v vx : Value) (vs us : List Value) (hs : a.eval s = v) (hx : a.eval x = vx) (hown : OwnC E B w v vs) (hr : RdC w vx us) (hlen : (vs.length + us.length) * by' ≤ 140737488355328) (hmx : vs.length + us.length ≤ maxLen) (hB : B ≤ w.heap.size)
    (h : ∀ v' w', OwnC E B w' v' (vs ++ us) → Below B w w' → w.grownBy w' v.ownBlock → (v'.ownBlock = v.ownBlock ∨ v'.ownBlock = some w.heap.size) → wpList P ops Q rest (a.put o.dst v') w') : wpList P ops Q (o :: rest) a w := by
  refine wpList_plain hgd fun K hK => ?_
  obtain ⟨i, hi0, hz, hsz, hby⟩ : ∃ i, P.info? E = some i ∧ i.zero = some z ∧ i.size = 1 ∧ i.bytes = by' := by
    rcases hq : P.info? E with _ | i
    · rw [hq] at hi; cases hi
    · rw [hq] at hi
      simp only [Option.map_some, Option.some.injEq, Prod.mk.injEq] at hi
      exact ⟨i, rfl, hi.1, hi.2.1, hi.2.2⟩
  obtain ⟨v', w', hr, h2, h3, h5⟩ := appC_run (P := P) w t o.type E i z by' ht hi0 hz hzc hsz hby B v vx vs us hown hr hlen hmx hB
  unfold Oper.wp execOp
  simp only [ho, resolve, invoke, builtin, Sem.run_bind, Sem.run_pure, Result.andThen_ok, List.map_toArray, List.map_cons, List.map_nil, hs, hx, hr]
  exact hK _ _ (h v' w' h2 (OwnC.below hB hown h3) h3 h5)
end

/-! ### Slices of slices of bytes -/
/-- The cells vs read as the lists ls; what holds bytes lies in no block that s names. -/
def VsL (s : Option Nat) (w : World) (vs : List Value) (ls : List (List UInt8)) : Prop :=
  vs.length = ls.length ∧ ∀ (j : Nat) (u : Value) (l : List UInt8), vs[j]? = some u → ls[j]? = some l → Rd w u l ∧ (0 < l.length → ∀ k, s = some k → u.ownBlock ≠ some k)
theorem VsL.nil (s : Option Nat) (w : World) : VsL s w [] [] := ⟨rfl, fun j u l h => by simp at h⟩
theorem VsL.nx {s : Option Nat} {w w' : World} {vs : List Value} {ls : List (List UInt8)} (h : VsL s w vs ls) (k : Nx w w') : VsL s w' vs ls :=
  ⟨h.1, fun j u l h1 h2 => ⟨(h.2 j u l h1 h2).1.nx k, (h.2 j u l h1 h2).2⟩⟩
theorem VsL.free {s : Option Nat} {w : World} {vs : List Value} {ls : List (List UInt8)} (h : VsL s w vs ls) : VsL none w vs ls :=
  ⟨h.1, fun j u l h1 h2 => ⟨(h.2 j u l h1 h2).1, fun _ k hk => by cases hk⟩⟩
theorem VsL.one {s : Option Nat} {w : World} {vs : List Value} {ls : List (List UInt8)} (h : VsL s w vs ls) : ∀ u ∈ vs, u.oneCell' = true := by
  intro u hu
  obtain ⟨j, hj, rfl⟩ := List.getElem_of_mem hu
  obtain ⟨⟨A, c, e, _⟩, _⟩ := h.2 j vs[j] (ls[j]'(by rw [← h.1]; exact hj)) (List.getElem?_eq_getElem hj) (List.getElem?_eq_getElem _)
  rw [e]; rfl
theorem Rd.blk {w : World} {v : Value} {l : List UInt8} (h : Rd w v l) (hp : 0 < l.length) : ∃ k, v.ownBlock = some k ∧ k < w.heap.size := by
  obtain ⟨A, c, rfl, _, _, ha⟩ := h
  obtain ⟨b, o, rfl, hb, _⟩ := ha hp
  exact ⟨b, by simp [Value.ownBlock], hb⟩
/-- Bytes that lie in no block that grew go on to be read. -/
theorem Rd.grownBy {w w' : World} {v : Value} {l : List UInt8} {row : Option Nat} (h : Rd w v l) (hg : w.grownBy w' row) (hs : 0 < l.length → ∀ k, row = some k → v.ownBlock ≠ some k) : Rd w' v l := by
  obtain ⟨A, c, rfl, h1, h2, ha⟩ := h
  refine ⟨A, c, rfl, h1, h2, fun hp => ?_⟩
  obtain ⟨b, o, rfl, hb, hc⟩ := ha hp
  have hne : some b ≠ row := fun e => hs hp b e.symm (by simp [Value.ownBlock])
  have hblk := hg.block b hb hne
  refine ⟨b, o, rfl, ?_, fun j hj => ?_⟩
  · rw [Array.getElem?_eq_getElem hb] at hblk
    exact (Array.getElem?_eq_some_iff.1 hblk).1
  · rw [← hc j hj]
    unfold World.cell?
    simp only [hblk]
/-- A slice of slices of bytes. -/
def RdL (w : World) (v : Value) (ls : List (List UInt8)) : Prop := ∃ vs, RdC w v vs ∧ VsL none w vs ls
/-- One of the call's own. -/
def OwnL (B : Nat) (w : World) (v : Value) (ls : List (List UInt8)) : Prop := ∃ vs, OwnC 34 B w v vs ∧ VsL v.ownBlock w vs ls
theorem RdL.nx {w w' : World} {v : Value} {ls : List (List UInt8)} (h : RdL w v ls) (k : Nx w w') : RdL w' v ls := by
  obtain ⟨vs, h1, h2⟩ := h
  exact ⟨vs, h1.nx k, h2.nx k⟩
theorem OwnL.nx {B : Nat} {w w' : World} {v : Value} {ls : List (List UInt8)} (h : OwnL B w v ls) (k : Nx w w') : OwnL B w' v ls := by
  obtain ⟨vs, h1, h2⟩ := h
  exact ⟨vs, h1.nx k, h2.nx k⟩
theorem OwnL.mono {B B' : Nat} {w : World} {v : Value} {ls : List (List UInt8)} (h : OwnL B w v ls) (hB : B' ≤ B) : OwnL B' w v ls := by
  obtain ⟨vs, h1, h2⟩ := h
  exact ⟨vs, h1.mono hB, h2⟩
theorem OwnL.rd {B : Nat} {w : World} {v : Value} {ls : List (List UInt8)} (h : OwnL B w v ls) : RdL w v ls := by
  obtain ⟨vs, h1, h2⟩ := h
  exact ⟨vs, h1.rd h2.one, h2.free⟩
theorem RdL.nil (w : World) : RdL w (.slice none 0 0) [] := ⟨[], RdC.nil w, VsL.nil _ _⟩
theorem OwnL.nil (B : Nat) (w : World) : OwnL B w (.slice none 0 0) [] := ⟨[], OwnC.nil _ _ _, VsL.nil _ _⟩
theorem VsL.append {s : Option Nat} {w : World} {vs us : List Value} {ls ms : List (List UInt8)} (h : VsL s w vs ls) (k : VsL s w us ms) : VsL s w (vs ++ us) (ls ++ ms) := by
  refine ⟨by rw [List.length_append, List.length_append, h.1, k.1], fun j u l h1 h2 => ?_⟩
  by_cases hj : j < vs.length
  · rw [List.getElem?_append_left hj] at h1
    rw [List.getElem?_append_left (by rw [← h.1]; exact hj)] at h2
    exact h.2 j u l h1 h2
  · rw [List.getElem?_append_right (by omega)] at h1
    rw [List.getElem?_append_right (by rw [← h.1]; omega), ← h.1] at h2
    exact k.2 _ u l h1 h2
theorem info_bytes24 : (Tryd.prog.info? 34).map (fun i => (i.zero, i.size, i.bytes)) = some (some (.slice none 0 0), 1, 24) := by kernel_rfl
/-- An append to one of the call's own, of lists that lie elsewhere. -/
theorem wpList_appL {w : World} {ops : Array Oper} {rest : List Oper} {o : Oper} {a : Act} {Q : Exit → Act → World → Prop} (hgd : o.guard = none) (s x : Operand) (t : TypeId)
    (ho : o.op = .call { callee := .builtin .append, args := #[s, x], argTypes := #[t, t] }) (ht : Tryd.prog.underlying t = some (.slice 34))
    (B : Nat) (v vx : Value) (ls ms : List (List UInt8)) (us : List Value) (hs : a.eval s = v) (hx : a.eval x = vx) (hown : OwnL B w v ls) (hr : RdC w vx us) (hu : VsL v.ownBlock w us ms) (hlen : ls.length + ms.length ≤ 1000000000000) (hB : B ≤ w.heap.size)
    (h : ∀ v' w', OwnL B w' v' (ls ++ ms) → Below B w w' → w.grownBy w' v.ownBlock → wpList Tryd.prog ops Q rest (a.put o.dst v') w') : wpList Tryd.prog ops Q (o :: rest) a w := by
  obtain ⟨vs, h1, h2⟩ := hown
  refine wpList_appC hgd s x t ho 34 (.slice none 0 0) 24 ht info_bytes24 rfl B v vx vs us hs hx h1 hr (by rw [h2.1, hu.1]; omega) (by rw [h2.1, hu.1]; simp only [maxLen]; omega) hB fun v' w' g1 g2 g3 g4 => h v' w' ⟨vs ++ us, g1, ?_⟩ g2 g3
  have happ := h2.append hu
  refine ⟨happ.1, fun j u l e1 e2 => ?_⟩
  obtain ⟨q1, q2⟩ := happ.2 j u l e1 e2
  refine ⟨q1.grownBy g3 fun hp k hk => q2 hp k hk, fun hp k hk hc => ?_⟩
  rcases g4 with g4 | g4
  · rw [g4] at hk; exact q2 hp k hk hc
  · rw [g4] at hk
    obtain rfl : w.heap.size = k := by simpa using hk
    obtain ⟨k', hk1, hk2⟩ := q1.blk hp
    rw [hc] at hk1
    have : w.heap.size = k' := by simpa using hk1
    omega
end Go.Proofs.YtjbeemoobmagnaaDoor
end

section
namespace Go.Proofs.YtjbeemoobmagnaaDoor
open Go Go.ChangeShapes Go.WideShapes Go.ChangeAt Go.RowKit
set_option linter.unusedVariables false
set_option linter.unusedSimpArgs false
set_option linter.unusedVariables false
set_option linter.unusedSimpArgs false

theorem bytes_of_ints (zs : List Int) (hw : ∀ z ∈ zs, (Lit.int .u8 z).wf = true) : ∃ l : List UInt8, l.length = zs.length ∧ zs.map (Value.int .u8) = bvs l := by
  refine ⟨zs.map fun z => UInt8.ofNat z.toNat, by simp, ?_⟩
  unfold bvs
  rw [List.map_map]
  refine List.map_congr_left fun z hz => ?_
  have := wf_u8 (hw z hz)
  simp only [Function.comp, bv, UInt8.toNat_ofNat']
  congr 1
  omega
theorem cut_next {α : Type} (cs : List α) (o k : Nat) : cs.drop o = (cs.drop o).take k ++ cs.drop (o + k) := by
  rw [← List.drop_drop, List.take_append_drop]
theorem cut_end {α : Type} (cs : List α) (o : Nat) (h : cs.length = o) : cs.drop o = [] := List.drop_eq_nil_of_le (Nat.le_of_eq h)

section
variable {H : Type} {enc : TypeId × Value → H} {P : Program} {W : World} {base : Nat}
theorem open_sl {t : TypeId} {fuel : Nat} {cs : List Value} {y : DataW H × List MemPlace}
    (ht : P.underlying t = some (.slice 5)) (he : P.underlying 5 = some (.int .u8)) (hc : P.cellsOf 5 = 1) (hby : P.bytesOf 5 = 1)
    (hf : DataW.trod enc P W base (fun _ => true) true fuel t cs = some y) (hsz : ∀ n ∈ y.1.weights P t, n ≤ reachBytes) :
    ∃ (A : Option Addr) (l : List UInt8) (c : Nat), cs = [.slice A l.length c] ∧ Rd W (.slice A l.length c) l ∧ l.length ≤ 140737488351232 := by
  rcases open_ints ht he hc hf with ⟨hcs, hx⟩ | ⟨x, len0, cap0, zs, hcs, _, hl, hm, hz, hx, hcell, hwz⟩
  · subst hcs
    exact ⟨none, [], 0, rfl, Rd.nil W, by simp⟩
  · subst hcs
    simp only [if_true] at hz
    have hd : y.1 = .slice (lits .u8 (zs.take len0)) (lits .u8 (zs.drop len0)) := by rw [hx]
    have hr := hsz ((zs.take len0).length + (zs.drop len0).length) (by rw [hd]; simp [DataW.weights, ht, hby, lits])
    have hlen : ((zs.take len0).map fun z => UInt8.ofNat z.toNat).length = len0 := by simp; omega
    refine ⟨some x, (zs.take len0).map fun z => UInt8.ofNat z.toNat, cap0, by rw [hlen], ?_, ?_⟩
    · refine ⟨some x, cap0, rfl, by rw [hlen]; exact hl, hm, fun h0 => ?_⟩
      rw [hlen] at h0
      have hc0 := hcell 0 (by omega)
      obtain ⟨b, o, sp⟩ := x
      have hsp : sp = none := by simpa [Addr.add] using World.cell?_spot hc0
      subst hsp
      refine ⟨b, o, rfl, ?_, fun i hi => ?_⟩
      · have := World.block_lt_of_cell? W _ hc0
        simpa [Addr.add] using this
      · rw [hlen] at hi
        have hci := hcell i (by omega)
        rw [addr_add] at hci
        rw [hci]
        have hiz : i < zs.length := by omega
        have hg : zs.getD i 0 = zs[i] := by simp [List.getD_eq_getElem?_getD, hiz]
        have hw := wf_u8 (hwz zs[i] (List.getElem_mem _))
        rw [hg]
        have h8 : (UInt8.ofNat zs[i].toNat).toNat = zs[i].toNat := by rw [UInt8.toNat_ofNat']; omega
        simp only [List.getElem_map, List.getElem_take, bv]
        rw [h8, Int.toNat_of_nonneg hw.1]
    · rw [hlen]
      have h1 : (zs.take len0).length = len0 := by simp; omega
      rw [h1] at hr
      have h2 : reachBytes = 140737488351232 := by decide
      rw [h2] at hr
      omega
theorem sized_top {ts : List TypeId} {ds : List (DataW H)} (h : (DataW.weightsEach P ts ds).all (· ≤ reachBytes) = true) {j : Nat} {t : TypeId} {d : DataW H} (ht : ts[j]? = some t) (hd : ds[j]? = some d) : ∀ n ∈ d.weights P t, n ≤ reachBytes :=
  fun n hn => of_decide_eq_true (List.all_eq_true.1 h _ (DataW.weights_mem_each ht hd n hn))
theorem sized_field {t : TypeId} {fs : Array Field} {parts : List (DataW H)} (hu : P.underlying t = some (.struct fs)) (h : ∀ n ∈ (DataW.agg parts).weights P t, n ≤ reachBytes) {j : Nat} {u : TypeId} {d : DataW H}
    (ht : (fs.toList.map (·.type))[j]? = some u) (hd : parts[j]? = some d) : ∀ n ∈ d.weights P u, n ≤ reachBytes := fun n hn => h n (by
  simp only [DataW.weights, hu]
  exact DataW.weights_mem_each ht hd n hn)
end

section
variable {H : Type} {enc : TypeId × Value → H} {P : Program} {W : World} {base : Nat}
theorem weightsAll_in {P : Program} {e : TypeId} : ∀ {l : List (DataW H)} {d : DataW H}, d ∈ l → ∀ n ∈ d.weights P e, n ∈ DataW.weightsAll P e l
  | x :: l, d, hd, n, hn => by
    simp only [DataW.weightsAll, List.mem_append]
    rcases List.mem_cons.1 hd with rfl | h
    · exact .inl hn
    · exact .inr (weightsAll_in h n hn)
theorem open_lists {ts : List TypeId} {ds : List (DataW H)} {j : Nat} {t : TypeId} {v : Value} {d : DataW H} {p : List MemPlace} {b0 : Nat} {r : Reach}
    (ht : P.underlying t = some (.slice 34)) (hb : P.underlying 34 = some (.slice 5)) (he : P.underlying 5 = some (.int .u8)) (hcb : P.cellsOf 34 = 1) (hc : P.cellsOf 5 = 1) (hby : P.bytesOf 5 = 1)
    (hv : Value.okWide P W r b0 t v) (h : DataW.Trod enc P W base (fun _ => true) true t v d p)
    (hsz : (DataW.weightsEach P ts ds).all (· ≤ reachBytes) = true) (hts : ts[j]? = some t) (hds : ds[j]? = some d) :
    ∃ ls : List (List UInt8), RdL W v ls ∧ ∀ l ∈ ls, l.length ≤ 140737488351232 := by
  have hs := sized_top hsz hts hds
  obtain ⟨a0, len0, cap0, rfl⟩ := okWide_slice ht hv
  obtain ⟨fuel, hf⟩ := h
  rcases Go.Deep.open_slice1 ht hcb hf with ⟨hcs, hx⟩ | ⟨a, len, cap, m, n, V, D, Pl, hcs, _, hl, hm, hmm, hx, hcell⟩
  · simp [Value.cells] at hcs
    obtain ⟨rfl, rfl, rfl⟩ := hcs
    exact ⟨[], RdL.nil W, by simp⟩
  · simp [Value.cells] at hcs
    obtain ⟨rfl, rfl, rfl⟩ := hcs
    simp only [if_true] at hmm
    simp only [Prod.mk.injEq] at hx
    have each : ∀ i, i < len0 → ∃ y : Option Addr × List UInt8 × Nat, V i = .slice y.1 y.2.1.length y.2.2 ∧ Rd W (.slice y.1 y.2.1.length y.2.2) y.2.1 ∧ y.2.1.length ≤ 140737488351232 := fun i hi => by
      obtain ⟨g1, g2⟩ := hcell i (by omega)
      obtain ⟨A, l, c, e1, e2, e3⟩ := open_sl hb he hc hby g2 (fun q hq => hs q (by
        rw [hx.1]
        simp only [DataW.weights, ht, List.mem_cons, List.mem_append]
        exact .inr (.inl (weightsAll_in (List.mem_map.2 ⟨i, List.mem_range.2 hi, rfl⟩) q hq))))
      exact ⟨(A, l, c), by simpa using e1, e2, e3⟩
    obtain ⟨Y, hY⟩ := Go.Deep.choose_lt each
    refine ⟨(List.range len0).map fun i => (Y i).2.1, ⟨(List.range len0).map V, ⟨some a, cap0, by simp, by simpa using hl, hm, ?_, fun hp => ?_⟩, by simp, fun j u l h1 h2 => ?_⟩, ?_⟩
    · intro u hu
      obtain ⟨i, hi, rfl⟩ := List.mem_map.1 hu
      rw [(hY i (List.mem_range.1 hi)).1]
      rfl
    · have hp' : 0 < len0 := by simpa using hp
      have hc0 := (hcell 0 (by omega)).1
      obtain ⟨b, o, sp⟩ := a
      have hsp : sp = none := by simpa [Addr.add] using World.cell?_spot hc0
      subst hsp
      refine ⟨b, o, rfl, ?_, fun i hi => ?_⟩
      · have := World.block_lt_of_cell? W _ hc0
        simpa [Addr.add] using this
      · have hi' : i < len0 := by simpa using hi
        have := (hcell i (by omega)).1
        rw [addr_add] at this
        rw [this]
        simp
    · obtain ⟨hj, rfl⟩ := List.getElem?_eq_some_iff.1 h1
      obtain ⟨hj2, rfl⟩ := List.getElem?_eq_some_iff.1 h2
      have hj' : j < len0 := by simpa using hj
      simp only [List.getElem_map, List.getElem_range]
      rw [(hY j hj').1]
      exact ⟨(hY j hj').2.1, fun _ k hk => by cases hk⟩
    · intro l hl
      obtain ⟨i, hi, rfl⟩ := List.mem_map.1 hl
      exact (hY i (List.mem_range.1 hi)).2.2
end
end Go.Proofs.YtjbeemoobmagnaaDoor
end

section
namespace Go.Proofs.YtjbeemoobmagnaaDoor
open Go Go.ChangeShapes Go.WideShapes Go.ChangeAt Go.RowKit
set_option linter.unusedVariables false
set_option linter.unusedSimpArgs false
set_option linter.unusedVariables false
set_option linter.unusedSimpArgs false

section
variable {H : Type} {enc : TypeId × Value → H} {W : World} {base : Nat}
theorem cells_u8h : Tryd.prog.cellsOf 5 = 1 := by kernel_rfl
theorem cells_hashh : Tryd.prog.cellsOf 30 = 32 := by kernel_rfl
theorem cells_u32h : Tryd.prog.cellsOf 22 = 1 := by kernel_rfl
theorem cells_head : Tryd.prog.cellsOf 32 = 67 := by kernel_rfl
theorem nat_of_wfh {n : Int} {m : Int} (h : 0 ≤ n ∧ n ≤ m) : ∃ k : Nat, n = (k : Int) ∧ (k : Int) ≤ m := ⟨n.toNat, by omega, by omega⟩
theorem trod_struct5 {P : Program} {t : TypeId} {f0 f1 f2 f3 f4 : Field} {fuel : Nat} {cs : List Value} {x : DataW H × List MemPlace} {spare : Nat → Bool} {held : Bool} (ht : P.underlying t = some (.struct #[f0, f1, f2, f3, f4])) (h : DataW.trod enc P W base spare held fuel t cs = some x) :
    ∃ y0 y1 y2 y3 y4 n, x = (.agg [y0.1, y1.1, y2.1, y3.1, y4.1], y0.2 ++ (y1.2 ++ (y2.2 ++ (y3.2 ++ y4.2)))) ∧ cs.length = P.cellsOf t ∧ DataW.trod enc P W base spare held n f0.type ((cs.drop f0.offset).take (P.cellsOf f0.type)) = some y0 ∧
      DataW.trod enc P W base spare held n f1.type ((cs.drop f1.offset).take (P.cellsOf f1.type)) = some y1 ∧ DataW.trod enc P W base spare held n f2.type ((cs.drop f2.offset).take (P.cellsOf f2.type)) = some y2 ∧
      DataW.trod enc P W base spare held n f3.type ((cs.drop f3.offset).take (P.cellsOf f3.type)) = some y3 ∧ DataW.trod enc P W base spare held n f4.type ((cs.drop f4.offset).take (P.cellsOf f4.type)) = some y4 := by
  obtain ⟨xs, n, _, rfl, hl, hlen, hf⟩ := DataW.trod_struct ht h
  match xs, hlen with
  | [y0, y1, y2, y3, y4], _ => exact ⟨y0, y1, y2, y3, y4, n, by simp, hl, by simpa using hf 0 f0 rfl, by simpa using hf 1 f1 rfl, by simpa using hf 2 f2 rfl, by simpa using hf 3 f3 rfl, by simpa using hf 4 f4 rfl⟩
set_option maxRecDepth 100000 in
theorem head_cells {fuel : Nat} {cs : List Value} {x : DataW H × List MemPlace} {spare : Nat → Bool} {held : Bool} (h : DataW.trod enc Tryd.prog W base spare held fuel 32 cs = some x) :
    ∃ (p r : List UInt8) (t b n : Nat), cs = hdl p r t b n ∧ p.length = 32 ∧ r.length = 32 ∧ t < 4294967296 ∧ b < 4294967296 ∧ n < 4294967296 := by
  obtain ⟨y0, y1, y2, y3, y4, m, -, hl, h0, h1, h2, h3, h4⟩ := trod_struct5 Tryd.underlying32 h
  dsimp only at h0 h1 h2 h3 h4
  rw [cells_hashh] at h0 h1
  rw [cells_u32h] at h2 h3 h4
  rw [cells_head] at hl
  obtain ⟨zs, hz, e0, -, hw⟩ := cells_ints Tryd.underlying30 Tryd.underlying5 cells_u8h cells_hashh h0
  obtain ⟨ys, hy, e1, -, hv⟩ := cells_ints Tryd.underlying30 Tryd.underlying5 cells_u8h cells_hashh h1
  obtain ⟨a, e2, -, w2⟩ := DataW.trod_int Tryd.underlying22 h2
  obtain ⟨c, e3, -, w3⟩ := DataW.trod_int Tryd.underlying22 h3
  obtain ⟨d, e4, -, w4⟩ := DataW.trod_int Tryd.underlying22 h4
  obtain ⟨l, hl1, el⟩ := bytes_of_ints zs hw
  obtain ⟨q, hq1, eq⟩ := bytes_of_ints ys hv
  obtain ⟨t, rfl, ht⟩ := nat_of_wfh (wf_u32 w2)
  obtain ⟨b, rfl, hb⟩ := nat_of_wfh (wf_u32 w3)
  obtain ⟨n, rfl, hn⟩ := nat_of_wfh (wf_u32 w4)
  refine ⟨l, q, t, b, n, ?_, by omega, by omega, by omega, by omega, by omega⟩
  have hc := cut_next cs 0 32
  rw [e0, el, Nat.zero_add, cut_next cs 32 32, e1, eq, cut_next cs 64 1, e2, cut_next cs 65 1, e3, cut_next cs 66 1, e4, cut_end cs 67 hl] at hc
  simpa [hdl] using hc
set_option maxRecDepth 100000 in
theorem open_head {b0 : Nat} {r : Reach} {v : Value} {d : DataW H} {p : List MemPlace} {spare : Nat → Bool} {held : Bool} (hv : Value.okWide Tryd.prog W r b0 32 v) (h : DataW.Trod enc Tryd.prog W base spare held 32 v d p) :
    ∃ (p r : List UInt8) (t b n : Nat), v = .agg (hdc p r t b n) ∧ p.length = 32 ∧ r.length = 32 ∧ t < 4294967296 ∧ b < 4294967296 ∧ n < 4294967296 := by
  obtain ⟨cs, rfl, -⟩ := okWide_struct Tryd.underlying32 hv
  obtain ⟨fuel, hf⟩ := h
  obtain ⟨p, r, t, b, n, e, h1, h2, h3, h4, h5⟩ := head_cells hf
  refine ⟨p, r, t, b, n, ?_, h1, h2, h3, h4, h5⟩
  have e : cs.toList = hdl p r t b n := by simpa [Value.cells] using e
  unfold hdc
  rw [← e]
end
end Go.Proofs.YtjbeemoobmagnaaDoor
end
