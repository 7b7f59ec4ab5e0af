/- LAYER 2: what the laid table gives; two hashes reckoned; works. -/
import Derived.Test.YtjbeemoobmagnaaDoorGg
import Derived.Test.YtjbeemoobmagnaaDoorGd
import Derived.Test.YtjbeemoobmagnaaDoorEqH
import Derived.Test.YtjbeemoobmagnaaDoorGf
import Derived.Test.YtjbeemoobmagnaaDoorRows
import Derived.Test.YtjbeemoobmagnaaDoorGc
import Derived.MakeChecks
import Derived.Lib.SlBytesConst
namespace Go.Proofs.YtjbeemoobmagnaaDoor
open Go Go.RowKit
set_option linter.unusedVariables false
set_option linter.unusedSimpArgs false

theorem sha_nil : (shaL []).take 4 = [227, 176, 196, 66] := by decide +kernel
theorem sha_abc : (shaL [97, 98, 99]).take 4 = [186, 120, 22, 191] := by decide +kernel
theorem take4_get {l m : List UInt8} (h : l.take 4 = m) (i : Nat) (hi : i < 4) : l[i]? = m[i]? := by
  rw [← h, List.getElem?_take_of_lt hi]
theorem Row.at {w : World} {g : Nat} {l : List UInt8} {t : TypeId} (h : Row w g (hcel l) t) {i : Nat} {b : UInt8} (hb : l[i]? = some b) : w.cell? ⟨g, i, none⟩ = some (.int .u8 (b.toNat : Int)) := by
  obtain ⟨hi, rfl⟩ := List.getElem?_eq_some_iff.1 hb
  exact h.cell (hcel_get l i hi)
theorem Rd.litm (w : World) (l : List UInt8) (cs : Array Value) (n g : Nat) (fz : Nat × Nat) (h : cs = (bvs l).toArray) (hn : n = l.length) (hm : l.length ≤ 1000) (hg : w.heap.size = g) : Rd (w.alloc (.cells cs 5 fz)) (.slice (some ⟨g, 0, none⟩) n n) l := by
  subst hg; subst hn; subst h
  refine ⟨_, _, rfl, Nat.le_refl _, by simp only [maxLen]; omega, At.of_cells (by simp) fun j hj => ?_⟩
  rw [Nat.zero_add]
  have : (w.alloc (.cells (bvs l).toArray 5 fz)).heap[w.heap.size]? = some (.cells (bvs l).toArray 5 fz) := heap_alloc_new w _
  simp only [World.cell?, this]
  simp [bvs, hj]
theorem pad_len (l : List UInt8) (n : Nat) (w : World) (v : Value) (hr : Rd w v l) (hl : l.length ≤ 140737488355000) (hn : (padL l).length = n) :
    Calls Tryd.prog 47 #[v] w fun e w' => ∃ A c, e = .returned (.slice A n c) ∧ Nx w w' :=
  (padded_any v l w hr hl).mono fun e w' ⟨x, h1, h2, h3⟩ => by
    obtain ⟨A, c, rfl, _⟩ := h2.rd
    rw [hn] at h1
    exact ⟨A, c, h1, h3⟩
theorem pad_0 (w : World) : Calls Tryd.prog 47 #[.slice none 0 0] w fun e w' => ∃ A c, e = .returned (.slice A 64 c) ∧ Nx w w' :=
  pad_len [] 64 w _ (Rd.nil w) (by decide) (by decide +kernel)
theorem pad_56 (w : World) : Calls Tryd.prog 47 #[.slice (some ⟨w.heap.size, 0, none⟩) 56 56] (w.alloc (.cells (zer 56) 5)) fun e w' => ∃ A c, e = .returned (.slice A 128 c) ∧ Nx (w.alloc (.cells (zer 56) 5)) w' := by
  have h := (Own.made w 56 (by decide)).rd
  exact pad_len (zeros 56) 128 _ _ h (by decide +kernel) (by decide +kernel)

set_option maxHeartbeats 2000000 in
theorem works_any (w : World) (hk : KIs w) : Calls Tryd.prog 16 #[] w fun e w' => e = .returned (.bool true) ∧ Nx w w' := by
  obtain ⟨hz, hzs⟩ := zero_of_info info_hash'
  have HK := Lib.hid hk
  have HA : Hid (∀ i b, i < 4 → ([227, 176, 196, 66] : List UInt8)[i]? = some b → (shaL [])[i]? = some b) := Lib.hid fun i b h1 h2 => by rw [take4_get sha_nil i h1]; exact h2
  have HB : Hid (∀ i b, i < 4 → ([186, 120, 22, 191] : List UInt8)[i]? = some b → (shaL [97, 98, 99])[i]? = some b) := Lib.hid fun i b h1 h2 => by rw [take4_get sha_abc i h1]; exact h2
  have L1 := Lib.hid (shaL_length [])
  have L2 := Lib.hid (shaL_length [97, 98, 99])
  have HS1 : Hid (∀ W, Nx w W → Calls Tryd.prog 46 #[.slice none 0 0] W fun e w' => e = .returned (.agg (hcel (shaL []))) ∧ Nx W w') := Lib.hid fun W h => sum_any _ [] W (HK.out.nx h) (Rd.nil W) (by decide)
  have HS2 : Hid (∀ W v, Nx w W → Rd W v [97, 98, 99] → Calls Tryd.prog 46 #[v] W fun e w' => e = .returned (.agg (hcel (shaL [97, 98, 99]))) ∧ Nx W w') := Lib.hid fun W v h hr => sum_any v _ W (HK.out.nx h) hr (by decide)
  have HZL : Hid ((List.replicate 32 (0 : UInt8)).length = 32) := Lib.hid List.length_replicate
  clear hk
  generalize shaL [] = H1 at *
  generalize shaL [97, 98, 99] = H2 at *
  generalize List.replicate 32 (0 : UInt8) = Z at *
  have i1 := Lib.hid (hashsz H1 L1.out)
  have i2 := Lib.hid (hashsz H2 L2.out)
  have o1 := Lib.hid (hashsame Z H1 HZL.out L1.out)
  have o2 := Lib.hid (hashsame Z H2 HZL.out L2.out)
  have hmk : ∀ w, (Instr.makeSlice 34 (.int .i64 56) (.int .i64 56)).run Tryd.prog w = .ok (.slice (some ⟨w.heap.size, 0, none⟩) 56 56) (w.alloc (.cells (zer 56) 5)) := fun w => run_mk 34 Tryd.underlying34 info_u8s .i64 .i64 56 (by decide) w
  have kc := fun (w : World) (C : Array Value) (n c : Nat) => Lib.run_convert_bytes_const (P := Tryd.prog) w 34 5 C n c Tryd.underlying34 Tryd.underlying5
  go_enter Tryd.func16, Tryd.ntmps16
  go_wp2_with fail
  refine (HS1.out _ (Nx.refl _)).mono ?_
  rintro e w1 ⟨rfl, n1⟩
  have N1 := Lib.hid n1
  clear n1
  go_wp2_with fail
  refine (HS2.out _ _ ?h1 ?h2).mono ?_
  case h1 => exact N1.out.alloc _
  case h2 => exact Rd.litm _ [97, 98, 99] _ _ _ _ rfl rfl (by decide) rfl
  rintro e w2 ⟨rfl, n2⟩
  have N2 := Lib.hid ((N1.out.alloc _).trans n2)
  clear n2 N1
  have RA := (Row.new w2 (hcel Z) 30 _ rfl).alloc (.cells (hcel Z) 30)
  have RB := Row.new2 w2 (.cells (hcel Z) 30) (hcel Z) 30
  have RB' := RB.setRow_other (k := w2.heap.size) (hcel H1) (by omega)
  have RA' := (RA.setRow (hcel H1)).setRow_other (k := w2.heap.size + 1) (hcel H2) (by omega)
  have RB'' := RB'.setRow (hcel H2)
  have N3 : Hid (Nx w ((((w2.alloc (.cells (hcel Z) 30)).alloc (.cells (hcel Z) 30)).setRow w2.heap.size (hcel H1)).setRow (w2.heap.size + 1) (hcel H2))) := Lib.hid (((((N2.out.alloc _).alloc _).setRow _ N2.out.size)).setRow _ (Nat.le_trans N2.out.size (Nat.le_succ _)))
  have qa0 := RA'.at (HA.out 0 _ (by decide) rfl)
  have qb0 := RB''.at (HB.out 0 _ (by decide) rfl)
  have qa1 := RA'.at (HA.out 1 _ (by decide) rfl)
  have qb1 := RB''.at (HB.out 1 _ (by decide) rfl)
  have qa2 := RA'.at (HA.out 2 _ (by decide) rfl)
  have qb2 := RB''.at (HB.out 2 _ (by decide) rfl)
  have qa3 := RA'.at (HA.out 3 _ (by decide) rfl)
  have qb3 := RB''.at (HB.out 3 _ (by decide) rfl)
  clear RA' RB''
  go_wp2_with (first | (refine wpList_store_row rfl 30 (.tmp 1) (.tmp 3) rfl w2.heap.size (hcel H1) rfl rfl 30 (hcel Z) RA i1.out o1.out (hcel_one _) ?_) | (refine wpList_store_row rfl 30 (.tmp 2) (.tmp 6) rfl (w2.heap.size + 1) (hcel H2) rfl rfl 30 (hcel Z) RB' i2.out o2.out (hcel_one _) ?_; clear RA RB RB'; generalize ((((w2.alloc (.cells (hcel Z) 30)).alloc (.cells (hcel Z) 30)).setRow w2.heap.size (hcel H1)).setRow (w2.heap.size + 1) (hcel H2)) = W at *))
  refine (pad_0 _).mono ?_
  rintro e w4 ⟨A4, c4, rfl, n4⟩
  have N4 := Lib.hid (N3.out.trans n4)
  clear n4 N3 qa0 qa1 qa2 qa3 qb0 qb1 qb2 qb3
  go_wp2_with fail
  refine (pad_56 _).mono ?_
  rintro e w5 ⟨A5, c5, rfl, n5⟩
  go_wp2_with fail
  go_ret
  exact ⟨rfl, (N4.out.alloc _).trans n5⟩
end Go.Proofs.YtjbeemoobmagnaaDoor
