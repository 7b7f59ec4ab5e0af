/- LAYER 8: the walk of HeadMined. -/
import Derived.Test.YtjbeemoobmagnaaDoorLawHeadMines
namespace Go.Proofs.YtjbeemoobmagnaaDoor
open Go Go.RowKit
set_option linter.unusedVariables false
set_option linter.unusedSimpArgs false
set_option linter.unusedVariables false
set_option linter.unusedSimpArgs false

theorem wp_neq_ofH {P : Program} {o : Oper} {a : Act} {w : World} {K : Act → World → Prop} {Q : Exit → Act → World → Prop} (dst : Option Tmp) (hd : o.dst = dst) (T : TypeId) (x y : Operand) (T' : TypeId) (ho : o.op = .binOp .neq T x y T') (X Y : Array Value)
    (hx : a.eval x = .agg X) (hy : a.eval y = .agg Y) (hgt : P.eqGuardType P.depth T = false) (b : Bool) (heq : (Op.equalIn 10000 T (.agg X) (.agg Y)).run P w = .ok b w) (h : K (a.put dst (.bool (!b))) w) : o.wp P a w K Q := by
  refine wp_val_of dst hd (.bool (!b)) ?_ h
  unfold execOp
  simp only [ho]
  have e1 : (eqGuard .neq T x y (a.eval x) (a.eval y)).run P w = .ok () w := by
    rw [hx, hy]
    simp [eqGuard, hgt, Sem.run_bind, Sem.run_pure, run_program]
  have e2 : (binOp .neq T (a.eval x) (a.eval y)).run P w = .ok (.bool (!b)) w := by
    rw [hx, hy]
    have : (Op.equal T (.agg X) (.agg Y)).run P w = .ok b w := heq
    simp [binOp, Sem.run_bind, this]
  simp only [Sem.run_bind, e1, e2, Result.andThen_ok, Sem.run_pure]

theorem read_put (p r : List UInt8) (t b n : Nat) (H : HOk p r t b n) : hrT (hdB p r t b n) = ⟨p, r, t, b, n, 76, 0⟩ := by
  have hl := hdB_length p r t b n H.p H.r
  have hc : cutE (hdB p r t b n).length 0 76 = 0 := by rw [hl]; rfl
  have hL : cutL (hdB p r t b n) 0 76 = hdB p r t b n := by
    unfold cutL
    rw [if_pos hc]
    show ((hdB p r t b n).drop 0).take 76 = _
    rw [List.drop_zero, List.take_of_length_le (by omega)]
  have hg : hgT (hdB p r t b n) 0 = ⟨p, r, t, b, n, 76, 0⟩ := by
    unfold hgT
    rw [if_pos hc, hL]
    unfold hdOf hdB
    have e1 : ∀ x, (low x 4).length = 4 := fun x => by simp
    have d1 : p.drop 64 = [] := List.drop_of_length_le (by rw [H.p]; decide)
    have d2 : p.drop 68 = [] := List.drop_of_length_le (by rw [H.p]; decide)
    have d3 : p.drop 72 = [] := List.drop_of_length_le (by rw [H.p]; decide)
    have d4 : r.drop 36 = [] := List.drop_of_length_le (by rw [H.r]; decide)
    have d5 : r.drop 40 = [] := List.drop_of_length_le (by rw [H.r]; decide)
    have d6 : (low t 4).drop 8 = [] := List.drop_of_length_le (by rw [e1]; decide)
    have n1 := num_low t 4 (by have := H.t; omega)
    have n2 := num_low b 4 (by have := H.b; omega)
    have n3 := num_low n 4 (by have := H.n; omega)
    simp [List.take_append, List.drop_append, H.p, H.r, e1, d1, d2, d3, d4, d5, d6, n1, n2, n3, List.take_of_length_le (Nat.le_of_eq (e1 n))]
  unfold hrT
  rw [hg]
  simp [hl]
theorem mined_any (p r : List UInt8) (t b n m : Nat) (H : HOk p r t b n) (hm : m < 4294967296) :
    (∃ e : Int, e ≠ 0 ∧ ∀ W, KIs W → Calls Tryd.prog 29 #[.agg (hdc p r t b n), .int .u32 (m : Int)] W fun e' w' => e' = .returned (.tuple #[.agg (hdc Z32 Z32 0 0 0), .int .i64 e]) ∧ Nx W w') ∨
    (∃ k, k < m ∧ meN (hI p r t b (nth32 n k).1) b = true ∧ (∀ j, j < k → meN (hI p r t b (nth32 n j).1) b = false) ∧ ∀ W, KIs W → Calls Tryd.prog 29 #[.agg (hdc p r t b n), .int .u32 (m : Int)] W fun e' w' => e' = .returned (.tuple #[.agg (hdc p r t b (nth32 n k).1), .int .i64 0]) ∧ Nx W w') := by
  by_cases hE : ofE b = 0
  · have h1 := fun W hk => hmine_ok p r t b n m H hE hm W hk
    unfold mineR at h1
    cases hK : mineK p r t b n m with
    | none =>
      rw [hK] at h1
      exact .inl ⟨6, by decide, h1⟩
    | some k =>
      rw [hK] at h1
      unfold mineK at hK
      rw [List.find?_range_eq_some] at hK
      obtain ⟨a1, a2, a3⟩ := hK
      exact .inr ⟨k, List.mem_range.1 a2, a1, fun j hj => by have := a3 j hj; simpa using this, h1⟩
  · exact .inl ⟨5, by decide, fun W _ => hmine_bad p r t b n m H hE W⟩
set_option maxRecDepth 100000 in
set_option maxHeartbeats 8000000 in
theorem headMined_law {w : World} (p r : List UInt8) (t b n : Nat) (hp : p.length = 32) (hr : r.length = 32) (ht : t < 4294967296) (hb : b < 4294967296) (hn : n < 4294967296) (a0 : Nat) (ha2 : (a0 : Int) ≤ 255) (hk : KIs w) :
    Calls Tryd.prog 7 #[.agg (hdc p r t b n), .int .u8 (a0 : Int)] w fun e w' => e = .returned (.bool true) ∧ Nx w w' := by
  have ha1 : 0 ≤ (a0 : Int) := by omega
  generalize (a0 : Int) = a at *
  have H : HOk p r t b n := ⟨hp, hr, ht, hb, hn⟩
  have HH := Lib.hid H
  have HK := Lib.hid hk
  obtain ⟨hz2, hzs2⟩ := zero_of_info info_head
  obtain ⟨m, hm⟩ : ∃ m : Nat, a % 21 = (m : Int) := ⟨(a % 21).toNat, by omega⟩
  have hm2 : a.tmod 21 = (m : Int) := by rw [Int.tmod_eq_emod_of_nonneg ha1]; exact hm
  have hm3 : IntKind.u32.wrap (m : Int) = (m : Int) := by rw [IntKind.wrap_u32]; omega
  have HM := Lib.hid (show m ≤ 20 by omega)
  have HP := Lib.hid (fun w => hput_any p r t b n hp hr ht hb hn w)
  have HRD : Hid (∀ W v, Rd W v (hdB p r t b n) → Calls Tryd.prog 27 #[v] W fun e w' => e = .returned (.tuple #[.agg (hdc p r t b n), .int .i64 0]) ∧ Nx W w') := Lib.hid fun W v h => by
    have := hread_any v _ W h (by rw [hdB_length _ _ _ _ _ hp hr]; decide)
    rwa [read_put p r t b n H] at this
  have HWK := Lib.hid (fun W (x : Nx w W) => hwork_any W)
  have hsz := Lib.hid (headsz p r t b n hp hr)
  have cso := Lib.hid (show (hdc Z32 Z32 0 0 0).size = (hdc p r t b n).size by rw [hd_size _ _ _ _ _ Z32_length Z32_length, hd_size _ _ _ _ _ hp hr])
  have EQH : Hid (∀ w, (Op.equalIn 10000 32 (.agg (hdc p r t b n)) (.agg (hdc p r t b n))).run Tryd.prog w = .ok true w) := Lib.hid fun w => by
    have := eq_head p r p r t b n t b n hp hr hp hr w
    simpa using this
  have EQZ : Hid (∀ w, (Op.equalIn 10000 32 (.agg (hdc Z32 Z32 0 0 0)) (.agg (hdc Z32 Z32 0 0 0))).run Tryd.prog w = .ok true w) := Lib.hid fun w => by
    have := eq_head Z32 Z32 Z32 Z32 0 0 0 0 0 0 Z32_length Z32_length Z32_length Z32_length w
    simpa using this
  have cz := Lib.hid (headsz Z32 Z32 0 0 0 Z32_length Z32_length)
  have R0 := Row.new w (hdc p r t b n) 32 _ rfl
  have N0 := (Nx.refl w).alloc (.cells (hdc p r t b n) 32)
  have MIN := mined_any p r t b n m H (by omega)
  clear hp hr ht hb hn hk H ha1 ha2
  rcases MIN with ⟨e0, he0, h1⟩ | ⟨k, hkm, hme, hall, h1⟩
  · have HA := Lib.hid (fun W (x : Nx w W) => h1 W (HK.out.nx x))
    clear h1
    have hbe : (e0 != 0) = true := by rw [bne_iff_ne]; exact he0
    have hbf : decide (e0 = 0) = false := by simp [he0]
    go_enter Tryd.func7, Tryd.ntmps7
    go_wp2_with (refine wpList_load_row rfl 32 (.tmp 2) rfl (w.heap.size) rfl 32 (hdc p r t b n) (0, 0) _ R0 Tryd.underlying32 rfl hsz.out ?_)
    generalize w.alloc (.cells (hdc p r t b n) 32) = W at *
    refine (HA.out _ N0).mono ?_
    rintro e w1 ⟨rfl, n1⟩
    have Z1 := Row.new w1 (hdc Z32 Z32 0 0 0) 32 _ rfl
    have A1 := Z1.setRow (hdc Z32 Z32 0 0 0)
    have R1 := ((R0.nx n1).alloc (.cells (hdc Z32 Z32 0 0 0) 32)).setRow_other (k := w1.heap.size) (hdc Z32 Z32 0 0 0) (by have := (R0.nx n1).lt; omega)
    have N1 := ((N0.trans n1).alloc (.cells (hdc Z32 Z32 0 0 0) 32)).setRow (g := w1.heap.size) (hdc Z32 Z32 0 0 0) (N0.trans n1).size
    go_wp2_with (first | (refine wpList_store_row rfl 32 (.tmp 6) (.tmp 19) rfl (w1.heap.size) (hdc Z32 Z32 0 0 0) rfl rfl 32 (hdc Z32 Z32 0 0 0) Z1 cz.out rfl (hd_one _ _ _ _ _) ?_) | (refine wpList_load_row rfl 32 (.tmp 2) rfl (w.heap.size) rfl 32 (hdc p r t b n) (0, 0) _ R1 Tryd.underlying32 rfl hsz.out ?_))
    generalize (w1.alloc (.cells (hdc Z32 Z32 0 0 0) 32)).setRow w1.heap.size (hdc Z32 Z32 0 0 0) = W1 at *
    clear n1 Z1 R0 N0
    refine (HP.out _).mono ?_
    rintro e w2 ⟨v2, rfl, o2, n2⟩
    have O2 := Lib.hid o2.rd
    have A1b := A1.nx n2
    have R1b := R1.nx n2
    have N1b := N1.trans n2
    clear o2 n2 A1 R1 N1
    go_wp2_with fail
    refine (HRD.out _ _ O2.out).mono ?_
    rintro e w3 ⟨rfl, n3⟩
    have Z2 := Row.new w3 (hdc Z32 Z32 0 0 0) 32 _ rfl
    have X2 := Z2.setRow (hdc p r t b n)
    have A2 := ((A1b.nx n3).alloc (.cells (hdc Z32 Z32 0 0 0) 32)).setRow_other (k := w3.heap.size) (hdc p r t b n) (by have := (A1b.nx n3).lt; omega)
    have R2 := ((R1b.nx n3).alloc (.cells (hdc Z32 Z32 0 0 0) 32)).setRow_other (k := w3.heap.size) (hdc p r t b n) (by have := (R1b.nx n3).lt; omega)
    have N2 := ((N1b.trans n3).alloc (.cells (hdc Z32 Z32 0 0 0) 32)).setRow (g := w3.heap.size) (hdc p r t b n) (N1b.trans n3).size
    go_wp2_with (first | (refine wpList_store_row rfl 32 (.tmp 8) (.tmp 25) rfl (w3.heap.size) (hdc p r t b n) rfl rfl 32 (hdc Z32 Z32 0 0 0) Z2 hsz.out cso.out (hd_one _ _ _ _ _) ?_) | (refine wpList_g (by rfl) fun K hK => ?_; first | (refine wp_load_row_of (some 30) rfl 32 (.tmp 8) rfl w3.heap.size rfl 32 (hdc p r t b n) _ X2 Tryd.underlying32 rfl hsz.out (hK _ _ ?_)) | (refine wp_load_row_of (some 31) rfl 32 (.tmp 2) rfl w.heap.size rfl 32 (hdc p r t b n) _ R2 Tryd.underlying32 rfl hsz.out (hK _ _ ?_)) | (refine wp_neq_ofH (some 32) rfl 32 _ _ _ rfl (hdc p r t b n) (hdc p r t b n) rfl rfl (by kernel_rfl) true (EQH.out _) (hK _ _ ?_))) | (refine wpList_load_row rfl 32 (.tmp 6) rfl (w1.heap.size) rfl 32 (hdc Z32 Z32 0 0 0) (0, 0) _ A2 Tryd.underlying32 rfl cz.out ?_) | (refine wpList_val (some 37) rfl rfl (.agg (hdc Z32 Z32 0 0 0)) ?_ ?_; (focus kernel_rfl)) | (refine wpList_eqlH rfl 32 (.tmp 36) (.tmp 37) _ rfl (hdc Z32 Z32 0 0 0) (hdc Z32 Z32 0 0 0) rfl rfl (by kernel_rfl) true (EQZ.out _) ?_))
    refine (HWK.out _ N2).mono ?_
    rintro e w4 ⟨rfl, n4⟩
    go_wp2_with fail
    go_ret
    exact ⟨rfl, N2.trans n4⟩
  · have HA := Lib.hid (fun W (x : Nx w W) => h1 W (HK.out.nx x))
    clear h1
    have HQY : HOk p r t b (nth32 n k).1 := ⟨HH.out.p, HH.out.r, HH.out.t, HH.out.b, (nth32 n k).2⟩
    have HWQ := Lib.hid (fun W (x : Nx w W) => by have := hworks_any p r t b _ HQY W (HK.out.nx x); rwa [hme] at this)
    have EQQ : Hid (∀ w, (Op.equalIn 10000 32 (.agg (hdc p r t b (nth32 n k).1)) (.agg (hdc p r t b (nth32 n k).1))).run Tryd.prog w = .ok true w) := Lib.hid fun w => by
      have := eq_head p r p r t b (nth32 n k).1 t b (nth32 n k).1 HQY.p HQY.r HQY.p HQY.r w
      simpa using this
    have HWJ : Hid (∀ j, j < k → ∀ W, Nx w W → Calls Tryd.prog 22 #[.agg (hdc p r t b (nth32 n j).1)] W fun e w' => e = .returned (.bool false) ∧ Nx W w') := Lib.hid fun j hj W x => by
      have := hworks_any p r t b (nth32 n j).1 ⟨HH.out.p, HH.out.r, HH.out.t, HH.out.b, (nth32 n j).2⟩ W (HK.out.nx x)
      rwa [hall j hj] at this
    have EQJ : Hid (∀ j, j < k → ∀ w, (Op.equalIn 10000 32 (.agg (hdc p r t b (nth32 n j).1)) (.agg (hdc p r t b (nth32 n k).1))).run Tryd.prog w = .ok false w) := Lib.hid fun j hj w => by
      have := eq_head p r p r t b (nth32 n j).1 t b (nth32 n k).1 HH.out.p HH.out.r HH.out.p HH.out.r w
      have hne : (nth32 n j).1 ≠ (nth32 n k).1 := by
        show (n + j) % 4294967296 ≠ (n + k) % 4294967296
        have := HM.out
        omega
      simpa [hne] using this
    have cq := Lib.hid (headsz p r t b (nth32 n k).1 HQY.p HQY.r)
    have cqo := Lib.hid (show (hdc Z32 Z32 0 0 0).size = (hdc p r t b (nth32 n k).1).size by rw [hd_size _ _ _ _ _ Z32_length Z32_length, hd_size _ _ _ _ _ HQY.p HQY.r])
    have HOn := Lib.hid (hd_one p r t b (nth32 n k).1)
    have HC : Hid (hdc p r t b (nth32 n k).1 = hdc p r t b (nth32 n k).1 ∧ True) := Lib.hid ⟨rfl, trivial⟩
    clear HQY hme hall
    obtain ⟨C, hC⟩ : ∃ C, hdc p r t b (nth32 n k).1 = C := ⟨_, rfl⟩
    rw [hC] at HA EQQ EQJ cq cqo HOn HWQ
    replace hC := Lib.hid hC
    replace hkm := Lib.hid hkm
    clear HC
    go_enter Tryd.func7, Tryd.ntmps7
    go_wp2_with (refine wpList_load_row rfl 32 (.tmp 2) rfl (w.heap.size) rfl 32 (hdc p r t b n) (0, 0) _ R0 Tryd.underlying32 rfl hsz.out ?_)
    generalize w.alloc (.cells (hdc p r t b n) 32) = W at *
    refine (HA.out _ N0).mono ?_
    rintro e w1 ⟨rfl, n1⟩
    have Z1 := Row.new w1 (hdc Z32 Z32 0 0 0) 32 _ rfl
    have A1 := Z1.setRow (C)
    have R1 := ((R0.nx n1).alloc (.cells (hdc Z32 Z32 0 0 0) 32)).setRow_other (k := w1.heap.size) (C) (by have := (R0.nx n1).lt; omega)
    have N1 := ((N0.trans n1).alloc (.cells (hdc Z32 Z32 0 0 0) 32)).setRow (g := w1.heap.size) (C) (N0.trans n1).size
    go_wp2_with (first | (refine wpList_store_row rfl 32 (.tmp 6) (.tmp 19) rfl (w1.heap.size) (C) rfl rfl 32 (hdc Z32 Z32 0 0 0) Z1 cq.out cqo.out HOn.out ?_) | (refine wpList_load_row rfl 32 (.tmp 2) rfl (w.heap.size) rfl 32 (hdc p r t b n) (0, 0) _ R1 Tryd.underlying32 rfl hsz.out ?_))
    generalize (w1.alloc (.cells (hdc Z32 Z32 0 0 0) 32)).setRow w1.heap.size (C) = W1 at *
    clear n1 Z1 R0 N0
    refine (HP.out _).mono ?_
    rintro e w2 ⟨v2, rfl, o2, n2⟩
    have O2 := Lib.hid o2.rd
    have A1b := A1.nx n2
    have R1b := R1.nx n2
    have N1b := N1.trans n2
    clear o2 n2 A1 R1 N1
    go_wp2_with fail
    refine (HRD.out _ _ O2.out).mono ?_
    rintro e w3 ⟨rfl, n3⟩
    have Z2 := Row.new w3 (hdc Z32 Z32 0 0 0) 32 _ rfl
    have X2 := Z2.setRow (hdc p r t b n)
    have A2 := ((A1b.nx n3).alloc (.cells (hdc Z32 Z32 0 0 0) 32)).setRow_other (k := w3.heap.size) (hdc p r t b n) (by have := (A1b.nx n3).lt; omega)
    have R2 := ((R1b.nx n3).alloc (.cells (hdc Z32 Z32 0 0 0) 32)).setRow_other (k := w3.heap.size) (hdc p r t b n) (by have := (R1b.nx n3).lt; omega)
    have N2 := ((N1b.trans n3).alloc (.cells (hdc Z32 Z32 0 0 0) 32)).setRow (g := w3.heap.size) (hdc p r t b n) (N1b.trans n3).size
    have hsw : ((w3.alloc (.cells (hdc Z32 Z32 0 0 0) 32)).setRow w3.heap.size (hdc p r t b n)).heap.size = w3.heap.size + 1 := by rw [size_setRow, alloc_size]
    have hlw := (A1b.nx n3).lt
    have Z3 := Row.new ((w3.alloc (.cells (hdc Z32 Z32 0 0 0) 32)).setRow w3.heap.size (hdc p r t b n)) (hdc Z32 Z32 0 0 0) 32 (w3.heap.size + 1) hsw.symm
    have B3 := Z3.setRow (hdc p r t b n)
    have A3 := (A2.alloc (.cells (hdc Z32 Z32 0 0 0) 32)).setRow_other (k := w3.heap.size + 1) (hdc p r t b n) (by omega)
    have N3 := (N2.alloc (.cells (hdc Z32 Z32 0 0 0) 32)).setRow (g := w3.heap.size + 1) (hdc p r t b n) (Nat.le_succ_of_le (N1b.trans n3).size)
    have HB3 := Lib.hid (show Row _ (w3.heap.size + 1) (hdc p r t b (nth32 n 0).1) 32 by rw [nth32_zero HH.out.n]; exact B3)
    have HA3 := Lib.hid A3
    have HN3 := Lib.hid N3
    have hlw' := Lib.hid hlw
    have HSL := Lib.hid (N1b.trans n3).size
    clear B3 A3 N3 hlw hsw
    go_wp2_with (first | (refine wpList_store_row rfl 32 (.tmp 8) (.tmp 25) rfl (w3.heap.size) (hdc p r t b n) rfl rfl 32 (hdc Z32 Z32 0 0 0) Z2 hsz.out cso.out (hd_one _ _ _ _ _) ?_) | (refine wpList_g (by rfl) fun K hK => ?_; first | (refine wp_load_row_of (some 30) rfl 32 (.tmp 8) rfl w3.heap.size rfl 32 (hdc p r t b n) _ X2 Tryd.underlying32 rfl hsz.out (hK _ _ ?_)) | (refine wp_load_row_of (some 31) rfl 32 (.tmp 2) rfl w.heap.size rfl 32 (hdc p r t b n) _ R2 Tryd.underlying32 rfl hsz.out (hK _ _ ?_)) | (refine wp_neq_ofH (some 32) rfl 32 _ _ _ rfl (hdc p r t b n) (hdc p r t b n) rfl rfl (by kernel_rfl) true (EQH.out _) (hK _ _ ?_))) | (refine wpList_load_row rfl 32 (.tmp 2) rfl (w.heap.size) rfl 32 (hdc p r t b n) (0, 0) _ R2 Tryd.underlying32 rfl hsz.out ?_) | (refine wpList_store_row rfl 32 (.tmp 10) (.tmp 42) rfl (w3.heap.size + 1) (hdc p r t b n) rfl rfl 32 (hdc Z32 Z32 0 0 0) Z3 hsz.out cso.out (hd_one _ _ _ _ _) ?_))
    go_loopw [11] (fun i wr => ∃ j : Nat, i = .int .u32 (j : Int) ∧ Hid (j ≤ k) ∧ Hid (Row wr (w3.heap.size + 1) (hdc p r t b (nth32 n j).1) 32) ∧ Hid (Row wr w1.heap.size C 32) ∧ Hid (Nx w wr)) (fun i _ => m - (intOf i).toNat)
    case atStart => exact ⟨0, rfl, Lib.hid (Nat.zero_le _), HB3, HA3, HN3⟩
    case round =>
      clear HB3 HA3 HN3 Z3 Z2 X2 A2 R2 N2
      obtain ⟨j, rfl, hj, QB, QA, QN⟩ := hrel
      have hlti : (j : Int) < (m : Int) := by have := hj.out; have := hkm.out; omega
      have hjw : IntKind.u32.wrap ((j : Int) + 1) = (j : Int) + 1 := by rw [IntKind.wrap_u32]; have := HM.out; omega
      have QA1 := QA.out
      by_cases hjk : j = k
      · subst hjk
        have QB1 : Row wr (w3.heap.size + 1) C 32 := by rw [← hC.out]; exact QB.out
        go_wp2_with (first | (refine wpList_load_row rfl 32 (.tmp 10) rfl (w3.heap.size + 1) rfl 32 (C) (0, 0) _ QB1 Tryd.underlying32 rfl cq.out ?_) | (refine wpList_load_row rfl 32 (.tmp 6) rfl (w1.heap.size) rfl 32 (C) (0, 0) _ QA1 Tryd.underlying32 rfl cq.out ?_) | (refine wpList_eqlH rfl 32 (.tmp 48) (.tmp 49) _ rfl (C) (C) rfl rfl (by kernel_rfl) true (EQQ.out _) ?_))
        refine (HWQ.out _ QN.out).mono ?_
        rintro e w5 ⟨rfl, n5⟩
        go_wp2_with fail
        refine (HWK.out _ (QN.out.trans n5)).mono ?_
        rintro e w6 ⟨rfl, n6⟩
        go_wp2_with fail
        go_ret
        exact ⟨rfl, (QN.out.trans n5).trans n6⟩
      · have hlt : j < k := by have := hj.out; omega
        have EJ := Lib.hid (EQJ.out j hlt)
        have WJ := Lib.hid (HWJ.out j hlt)
        have hqn := nth32_next n j
        have HQ2 : Hid (∀ W, Row W (w3.heap.size + 1) ((hdc p r t b (nth32 n j).1).setIfInBounds 66 (.int .u32 ((nth32 n (j + 1)).1 : Int))) 32 → Row W (w3.heap.size + 1) (hdc p r t b (nth32 n (j + 1)).1) 32) := Lib.hid fun W h => by rw [hd_setn p r t b _ _ HH.out.p HH.out.r] at h; exact h
        have HCN := Lib.hid (hd_n p r t b (nth32 n j).1 HH.out.p HH.out.r)
        have hqz := Lib.hid (headsz p r t b (nth32 n j).1 HH.out.p HH.out.r)
        generalize hq : (nth32 n j).1 = q at *
        generalize hq2 : (nth32 n (j + 1)).1 = q2 at *
        replace hq2 := Lib.hid hq2
        clear hq
        have QB1 := QB.out
        replace hlt := Lib.hid hlt
        clear EQJ HWJ
        go_wp2_with (first | (refine wpList_load_row rfl 32 (.tmp 10) rfl (w3.heap.size + 1) rfl 32 (hdc p r t b q) (0, 0) _ QB1 Tryd.underlying32 rfl hqz.out ?_) | (refine wpList_load_row rfl 32 (.tmp 6) rfl (w1.heap.size) rfl 32 (C) (0, 0) _ QA1 Tryd.underlying32 rfl cq.out ?_) | (refine wpList_eqlH rfl 32 (.tmp 48) (.tmp 49) _ rfl (hdc p r t b q) (C) rfl rfl (by kernel_rfl) false (EJ.out _) ?_))
        refine (WJ.out _ QN.out).mono ?_
        rintro e w5 ⟨rfl, n5⟩
        have P2 := QB1.nx n5
        have PA := QA1.nx n5
        have PN := QN.out.trans n5
        have c66 := P2.cell HCN.out
        have f66 := P2.frozen 66
        have U2 := Lib.hid (HQ2.out _ (P2.set 66 (.int .u32 (q2 : Int))))
        have UA := Lib.hid (PA.other (w3.heap.size + 1) 66 (.int .u32 (q2 : Int)) (by have := hlw'.out; omega))
        have UN := Lib.hid (PN.setAt (k := w3.heap.size + 1) (i := 66) (.int .u32 (q2 : Int)) (Nat.le_succ_of_le HSL.out))
        clear n5 QB1 QA1 PA PN
        go_wp2_with fail
        go_roundw
        case rel => exact ⟨j + 1, by go_num, Lib.hid hlt.out, by rw [hq2.out]; exact U2, UA, UN⟩
        case measure => have := hlt.out; have := hkm.out; simp [intOf]; omega
end Go.Proofs.YtjbeemoobmagnaaDoor
