/- OPENING STRUCTS THAT CAME IN (a point, an output, a coin), of our own: the value written out, its bytes read as lists. -/
import Derived.Test.YtniaiglfgknfiaaCoinR5
import Derived.Test.YtniaiglfgknfiaaArr
import Derived.Lib.SmallJoins
namespace Go.Proofs.Ytniaiglfgknfiaa
open Go.ChangeShapes Go.WideShapes Go.ChangeAt Go.RowKit
set_option linter.unusedVariables false
set_option linter.unusedSimpArgs false
set_option linter.unusedVariables false
set_option linter.unusedSimpArgs false

theorem bytes_of_ints (zs : List Int) (hw : ∀ z ∈ zs, (Lit.int .u8 z).wf = true) : ∃ l : List UInt8, l.length = zs.length ∧ zs.map (Value.int .u8) = bvs l := by
  refine ⟨zs.map fun z => UInt8.ofNat z.toNat, by simp, ?_⟩
  unfold bvs
  rw [List.map_map]
  refine List.map_congr_left fun z hz => ?_
  have := wf_u8 (hw z hz)
  simp only [Function.comp, bv, UInt8.toNat_ofNat']
  congr 1
  omega
theorem cut_next {α : Type} (cs : List α) (o k : Nat) : cs.drop o = (cs.drop o).take k ++ cs.drop (o + k) := by
  rw [← List.drop_drop, List.take_append_drop]
theorem cut_end {α : Type} (cs : List α) (o : Nat) (h : cs.length = o) : cs.drop o = [] := List.drop_eq_nil_of_le (Nat.le_of_eq h)

section
variable {H : Type} {enc : TypeId × Value → H} {P : Program} {W : World} {base : Nat}
theorem open_sl {t : TypeId} {fuel : Nat} {cs : List Value} {y : DataW H × List MemPlace}
    (ht : P.underlying t = some (.slice 5)) (he : P.underlying 5 = some (.int .u8)) (hc : P.cellsOf 5 = 1) (hby : P.bytesOf 5 = 1)
    (hf : DataW.trod enc P W base (fun _ => true) true fuel t cs = some y) (hsz : ∀ n ∈ y.1.weights P t, n ≤ reachBytes) :
    ∃ (A : Option Addr) (l : List UInt8) (c : Nat), cs = [.slice A l.length c] ∧ Rd W (.slice A l.length c) l ∧ l.length ≤ 140737488351232 := by
  rcases open_ints ht he hc hf with ⟨hcs, hx⟩ | ⟨x, len0, cap0, zs, hcs, _, hl, hm, hz, hx, hcell, hwz⟩
  · subst hcs
    exact ⟨none, [], 0, rfl, Rd.nil W, by simp⟩
  · subst hcs
    simp only [if_true] at hz
    have hd : y.1 = .slice (lits .u8 (zs.take len0)) (lits .u8 (zs.drop len0)) := by rw [hx]
    have hr := hsz ((zs.take len0).length + (zs.drop len0).length) (by rw [hd]; simp [DataW.weights, ht, hby, lits])
    have hlen : ((zs.take len0).map fun z => UInt8.ofNat z.toNat).length = len0 := by simp; omega
    refine ⟨some x, (zs.take len0).map fun z => UInt8.ofNat z.toNat, cap0, by rw [hlen], ?_, ?_⟩
    · refine ⟨some x, cap0, rfl, by rw [hlen]; exact hl, hm, fun h0 => ?_⟩
      rw [hlen] at h0
      have hc0 := hcell 0 (by omega)
      obtain ⟨b, o, sp⟩ := x
      have hsp : sp = none := by simpa [Addr.add] using World.cell?_spot hc0
      subst hsp
      refine ⟨b, o, rfl, ?_, fun i hi => ?_⟩
      · have := World.block_lt_of_cell? W _ hc0
        simpa [Addr.add] using this
      · rw [hlen] at hi
        have hci := hcell i (by omega)
        rw [addr_add] at hci
        rw [hci]
        have hiz : i < zs.length := by omega
        have hg : zs.getD i 0 = zs[i] := by simp [List.getD_eq_getElem?_getD, hiz]
        have hw := wf_u8 (hwz zs[i] (List.getElem_mem _))
        rw [hg]
        have h8 : (UInt8.ofNat zs[i].toNat).toNat = zs[i].toNat := by rw [UInt8.toNat_ofNat']; omega
        simp only [List.getElem_map, List.getElem_take, bv]
        rw [h8, Int.toNat_of_nonneg hw.1]
    · rw [hlen]
      have h1 : (zs.take len0).length = len0 := by simp; omega
      rw [h1] at hr
      have h2 : reachBytes = 140737488351232 := by decide
      rw [h2] at hr
      omega
theorem sized_top {ts : List TypeId} {ds : List (DataW H)} (h : (DataW.weightsEach P ts ds).all (· ≤ reachBytes) = true) {j : Nat} {t : TypeId} {d : DataW H} (ht : ts[j]? = some t) (hd : ds[j]? = some d) : ∀ n ∈ d.weights P t, n ≤ reachBytes :=
  fun n hn => of_decide_eq_true (List.all_eq_true.1 h _ (DataW.weights_mem_each ht hd n hn))
theorem sized_field {t : TypeId} {fs : Array Field} {parts : List (DataW H)} (hu : P.underlying t = some (.struct fs)) (h : ∀ n ∈ (DataW.agg parts).weights P t, n ≤ reachBytes) {j : Nat} {u : TypeId} {d : DataW H}
    (ht : (fs.toList.map (·.type))[j]? = some u) (hd : parts[j]? = some d) : ∀ n ∈ d.weights P u, n ≤ reachBytes := fun n hn => h n (by
  simp only [DataW.weights, hu]
  exact DataW.weights_mem_each ht hd n hn)
end

section
variable {H : Type} {enc : TypeId × Value → H} {W : World} {base : Nat}
theorem cells_u8o : Try.prog.cellsOf 5 = 1 := by kernel_rfl
theorem bytes_u8o : Try.prog.bytesOf 5 = 1 := by kernel_rfl
theorem cells_hash : Try.prog.cellsOf 23 = 32 := by kernel_rfl
theorem cells_u16 : Try.prog.cellsOf 24 = 1 := by kernel_rfl
theorem cells_u32 : Try.prog.cellsOf 25 = 1 := by kernel_rfl
theorem cells_u64 : Try.prog.cellsOf 28 = 1 := by kernel_rfl
theorem cells_bool : Try.prog.cellsOf 4 = 1 := by kernel_rfl
theorem cells_bytes : Try.prog.cellsOf 29 = 1 := by kernel_rfl
theorem cells_point : Try.prog.cellsOf 27 = 34 := by kernel_rfl
theorem cells_coin : Try.prog.cellsOf 31 = 37 := by kernel_rfl
theorem cells_out : Try.prog.cellsOf 33 = 2 := by kernel_rfl

theorem nat_of_wf {n : Int} {m : Int} (h : 0 ≤ n ∧ n ≤ m) : ∃ k : Nat, n = (k : Int) ∧ (k : Int) ≤ m := ⟨n.toNat, by omega, by omega⟩
theorem wf_u16 {n : Int} (h : (Lit.int .u16 n).wf = true) : 0 ≤ n ∧ n ≤ 65535 := by
  simpa [Lit.wf, IntKind.min, IntKind.max, IntKind.signed, IntKind.bits] using h

theorem point_cells {fuel : Nat} {cs : List Value} {x : DataW H × List MemPlace} {spare : Nat → Bool} {held : Bool} (h : DataW.trod enc Try.prog W base spare held fuel 27 cs = some x) :
    ∃ (tx : List UInt8) (n h : Nat), cs = pcl tx n h ∧ tx.length = 32 ∧ n < 65536 ∧ h < 4294967296 := by
  obtain ⟨y0, y1, y2, m, -, hl, h0, h1, h2⟩ := Go.Deep.trod_struct3 Try.underlying27 h
  dsimp only at h0 h1 h2
  rw [cells_hash] at h0
  rw [cells_u16] at h1
  rw [cells_u32] at h2
  rw [cells_point] at hl
  obtain ⟨zs, hz, e0, -, hw⟩ := cells_ints Try.underlying23 Try.underlying5 cells_u8o cells_hash h0
  obtain ⟨a, e1, -, w1⟩ := DataW.trod_int Try.underlying24 h1
  obtain ⟨b, e2, -, w2⟩ := DataW.trod_int Try.underlying25 h2
  obtain ⟨l, hl1, el⟩ := bytes_of_ints zs hw
  obtain ⟨n, rfl, hn⟩ := nat_of_wf (wf_u16 w1)
  obtain ⟨k, rfl, hk⟩ := nat_of_wf (wf_u32 w2)
  refine ⟨l, n, k, ?_, by omega, by omega, by omega⟩
  have hc := cut_next cs 0 32
  rw [e0, el, Nat.zero_add, cut_next cs 32 1, e1, cut_next cs 33 1, e2, cut_end cs 34 hl] at hc
  simpa [pcl] using hc

theorem open_point {b0 : Nat} {r : Reach} {v : Value} {d : DataW H} {p : List MemPlace} {spare : Nat → Bool} {held : Bool} (hv : Value.okWide Try.prog W r b0 27 v) (h : DataW.Trod enc Try.prog W base spare held 27 v d p) :
    ∃ (tx : List UInt8) (n h : Nat), v = .agg (pcel tx n h) ∧ tx.length = 32 ∧ n < 65536 ∧ h < 4294967296 := by
  obtain ⟨cs, rfl, -⟩ := okWide_struct Try.underlying27 hv
  obtain ⟨fuel, hf⟩ := h
  obtain ⟨tx, n, k, e, h1, h2, h3⟩ := point_cells hf
  refine ⟨tx, n, k, ?_, h1, h2, h3⟩
  have e : cs.toList = pcl tx n k := by simpa [Value.cells] using e
  unfold pcel
  rw [← e]

theorem open_out {ts : List TypeId} {ds : List (DataW H)} {j : Nat} {b0 : Nat} {r : Reach} {v : Value} {d : DataW H} {p : List MemPlace} (hv : Value.okWide Try.prog W r b0 33 v)
    (h : DataW.Trod enc Try.prog W base (fun _ => true) true 33 v d p) (hsz : (DataW.weightsEach Try.prog ts ds).all (· ≤ reachBytes) = true) (hts : ts[j]? = some 33) (hds : ds[j]? = some d) :
    ∃ (n : Nat) (A : Option Addr) (l : List UInt8) (c : Nat), v = .agg #[.int .u64 (n : Int), .slice A l.length c] ∧ (n : Int) ≤ 18446744073709551615 ∧ Rd W (.slice A l.length c) l ∧ l.length ≤ 140737488351232 := by
  have hs := sized_top hsz hts hds
  obtain ⟨cs, rfl, -⟩ := okWide_struct Try.underlying33 hv
  obtain ⟨fuel, hf⟩ := h
  obtain ⟨y0, y1, m, hx, hl, h0, h1⟩ := trod_struct2 Try.underlying33 hf
  simp only [Prod.mk.injEq] at hx
  rw [hx.1] at hs
  dsimp only at h0 h1
  rw [cells_u64] at h0
  rw [cells_bytes] at h1
  rw [cells_out] at hl
  obtain ⟨a, e0, -, w0⟩ := DataW.trod_int Try.underlying28 h0
  obtain ⟨A, l, c, e1, hr, hb⟩ := open_sl Try.underlying29 Try.underlying5 cells_u8o bytes_u8o h1 (sized_field Try.underlying33 hs (j := 1) rfl rfl)
  obtain ⟨n, rfl, hn⟩ := nat_of_wf (wf_u64 w0)
  refine ⟨n, A, l, c, ?_, hn, hr, hb⟩
  have hl' : cs.toList.length = 2 := by simpa [Value.cells] using hl
  have hc := cut_next cs.toList 0 1
  simp only [Value.cells] at e0 e1
  rw [e0, Nat.zero_add, cut_next cs.toList 1 1, e1, cut_end cs.toList 2 hl'] at hc
  have hc : cs.toList = [.int .u64 (n : Int), .slice A l.length c] := by simpa using hc
  obtain ⟨L⟩ := cs
  simp at hc
  rw [hc]

theorem open_coin {ts : List TypeId} {ds : List (DataW H)} {j : Nat} {b0 : Nat} {r : Reach} {v : Value} {d : DataW H} {p : List MemPlace} (hv : Value.okWide Try.prog W r b0 31 v)
    (h : DataW.Trod enc Try.prog W base (fun _ => true) true 31 v d p) (hsz : (DataW.weightsEach Try.prog ts ds).all (· ≤ reachBytes) = true) (hts : ts[j]? = some 31) (hds : ds[j]? = some d) :
    ∃ (tx : List UInt8) (n k q : Nat) (b : Bool) (A : Option Addr) (l : List UInt8) (c : Nat), v = .agg (ccel tx n k q b (.slice A l.length c)) ∧ tx.length = 32 ∧ n < 65536 ∧ k < 4294967296 ∧ (q : Int) ≤ 18446744073709551615 ∧
      Rd W (.slice A l.length c) l ∧ l.length ≤ 140737488351232 := by
  have hs := sized_top hsz hts hds
  obtain ⟨cs, rfl, -⟩ := okWide_struct Try.underlying31 hv
  obtain ⟨fuel, hf⟩ := h
  obtain ⟨y0, y1, y2, y3, m, hx, hl, h0, h1, h2, h3⟩ := Go.Joins.trod_struct4 Try.underlying31 hf
  simp only [Prod.mk.injEq] at hx
  rw [hx.1] at hs
  dsimp only at h0 h1 h2 h3
  rw [cells_point] at h0
  rw [cells_u64] at h1
  rw [cells_bool] at h2
  rw [cells_bytes] at h3
  rw [cells_coin] at hl
  obtain ⟨tx, n, k, e0, ht, hn, hk⟩ := point_cells h0
  obtain ⟨a, e1, -, w1⟩ := DataW.trod_int Try.underlying28 h1
  obtain ⟨b, e2, -⟩ := DataW.trod_bool Try.underlying4 h2
  obtain ⟨A, l, c, e3, hr, hb⟩ := open_sl Try.underlying29 Try.underlying5 cells_u8o bytes_u8o h3 (sized_field Try.underlying31 hs (j := 3) rfl rfl)
  obtain ⟨q, rfl, hq⟩ := nat_of_wf (wf_u64 w1)
  refine ⟨tx, n, k, q, b, A, l, c, ?_, ht, hn, hk, hq, hr, hb⟩
  have hl' : cs.toList.length = 37 := by simpa [Value.cells] using hl
  have hc := cut_next cs.toList 0 34
  simp only [Value.cells] at e0 e1 e2 e3
  rw [e0, Nat.zero_add, cut_next cs.toList 34 1, e1, cut_next cs.toList 35 1, e2, cut_next cs.toList 36 1, e3, cut_end cs.toList 37 hl'] at hc
  have hc : cs.toList = pcl tx n k ++ [.int .u64 (q : Int), .bool b, .slice A l.length c] := by simpa using hc
  unfold ccel
  rw [← hc]
end
end Go.Proofs.Ytniaiglfgknfiaa
