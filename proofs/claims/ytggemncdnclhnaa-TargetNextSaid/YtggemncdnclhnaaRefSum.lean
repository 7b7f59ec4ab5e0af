/- THE REFERENCE OF LAYER 3: sum, not. -/
import Derived.Test.YtggemncdnclhnaaRefBits
import Derived.Test.YtggemncdnclhnaaRefNum
namespace Go.Proofs.Ytggemncdnclhnaa
open Go.RowKit
set_option linter.unusedVariables false
set_option linter.unusedSimpArgs false

/-- The carry into bit k. -/
def car2 (a b c k : Nat) : Nat := (a % 2 ^ k + b % 2 ^ k + c) / 2 ^ k
theorem car2_zero (a b c : Nat) : car2 a b c 0 = c := by simp [car2, Nat.mod_one]
theorem car2_le (a b c k : Nat) (hc : c ≤ 1) : car2 a b c k ≤ 1 := by
  unfold car2
  have hp : 0 < 2 ^ k := Nat.pow_pos (by omega)
  have h1 := Nat.mod_lt a hp
  have h2 := Nat.mod_lt b hp
  generalize 2 ^ k = m at *
  have : (a % m + b % m + c) / m < 2 := by rw [Nat.div_lt_iff_lt_mul hp]; omega
  omega
theorem bsum_step (a b c k : Nat) : (a + b + c) / 2 ^ k % 2 = (a / 2 ^ k % 2 + b / 2 ^ k % 2 + car2 a b c k) % 2 ∧ car2 a b c (k + 1) = (a / 2 ^ k % 2 + b / 2 ^ k % 2 + car2 a b c k) / 2 := by
  unfold car2
  have hp : 0 < 2 ^ k := Nat.pow_pos (by omega)
  rw [Nat.pow_succ, mod_step, mod_step]
  generalize 2 ^ k = m at *
  have ea : a = a % m + m * (a / m) := by have := Nat.mod_add_div a m; omega
  have eb : b = b % m + m * (b / m) := by have := Nat.mod_add_div b m; omega
  constructor
  · have : a + b + c = (a % m + b % m + c) + m * (a / m + b / m) := by rw [Nat.mul_add]; omega
    rw [this, Nat.add_mul_div_left _ _ hp]
    omega
  · have : a % m + m * (a / m % 2) + (b % m + m * (b / m % 2)) + c = (a % m + b % m + c) + m * (a / m % 2 + b / m % 2) := by rw [Nat.mul_add]; omega
    rw [this, ← Nat.div_div_eq_div_mul, Nat.add_mul_div_left _ _ hp, Nat.add_comm]
/-- The same, in Bools. -/
def carB2 (a b : Nat) (c : Bool) (k : Nat) : Bool := decide (1 ≤ car2 a b c.toNat k)
theorem carB2_zero (a b : Nat) (c : Bool) : carB2 a b c 0 = c := by unfold carB2; rw [car2_zero]; cases c <;> rfl
theorem bit_mod (a k : Nat) : a / 2 ^ k % 2 = (a.testBit k).toNat := by
  rw [Nat.testBit_eq_decide_div_mod_eq]
  have : a / 2 ^ k % 2 < 2 := Nat.mod_lt _ (by decide)
  by_cases h : a / 2 ^ k % 2 = 1
  · simp [h]
  · have : a / 2 ^ k % 2 = 0 := by omega
    simp [this]
theorem bsum_bool (a b : Nat) (c : Bool) (k : Nat) : (a + b + c.toNat).testBit k = decide (((a.testBit k).toNat + (b.testBit k).toNat + (carB2 a b c k).toNat) % 2 = 1) ∧ carB2 a b c (k + 1) = decide (2 ≤ (a.testBit k).toNat + (b.testBit k).toNat + (carB2 a b c k).toNat) := by
  obtain ⟨h1, h2⟩ := bsum_step a b c.toNat k
  have hc : car2 a b c.toNat k ≤ 1 := car2_le _ _ _ _ (by cases c <;> decide)
  have e : (carB2 a b c k).toNat = car2 a b c.toNat k := by
    unfold carB2
    by_cases h : 1 ≤ car2 a b c.toNat k
    · simp [h]; omega
    · simp [h]; omega
  rw [e, ← bit_mod, ← bit_mod]
  constructor
  · rw [Nat.testBit_eq_decide_div_mod_eq, h1]
  · unfold carB2
    rw [h2, Bool.eq_iff_iff]
    simp only [decide_eq_true_eq]
    omega
theorem carB2_all (a b : Nat) (c : Bool) (ha : a < top) (hb : b < top) : carB2 a b c 256 = decide (top ≤ a + b + c.toNat) := by
  unfold carB2 car2
  rw [← top_eq, Nat.mod_eq_of_lt ha, Nat.mod_eq_of_lt hb, Bool.eq_iff_iff]
  simp only [decide_eq_true_eq]
  have hp : 0 < top := by decide
  rw [Nat.le_div_iff_mul_le hp, Nat.one_mul]

theorem results_row_tmp {P : Program} {fn : Func} {p q : Tmp} {ty : TypeId} (h : fn.results = #[.cell p ty, .tmp q]) (tmps : Array Value) (w : World) (g : Nat) (t : TypeId) (cs : Array Value) (fr : Nat × Nat) (d : TypeDesc)
    (hp : tmps.getD p undef = .pointer (some ⟨g, 0, none⟩)) (hg : w.heap[g]? = some (.cells cs t fr))
    (hu : P.underlying ty = some d) (hd : (match d with | .struct _ | .array _ _ => true | _ => false) = true) (hi : (P.info? ty).map (·.size) = some cs.size) :
    (results fn tmps).run P w = .ok (.tuple #[.agg cs, tmps.getD q undef]) w := by
  have hp' : tmps[p]?.getD undef = .pointer (some ⟨g, 0, none⟩) := by simpa using hp
  simp [results, h, hp', asAddr, run_loadVar_row w g t ty cs fr d hg hu hd hi]

set_option maxHeartbeats 4000000 in
theorem refSum_any (a b : Nat) (c : Bool) (w : World) (ha : a < top) (hb : b < top) :
    Calls Try.prog 56 #[.agg (bcel (bitsL a)), .agg (bcel (bitsL b)), .bool c] w fun e w' => e = .returned (.tuple #[.agg (bcel (bitsL (a + b + c.toNat))), .bool (decide (top ≤ a + b + c.toNat))]) ∧ Nx w w' := by
  obtain ⟨hz, hs⟩ := zero_of_info info_bits
  have HCA := Lib.hid (carB2_all a b c ha hb)
  have HST := Lib.hid (bsum_bool a b c)
  have HC0 := Lib.hid (carB2_zero a b c)
  have HLA := Lib.hid (fun k (hk : k < 256) => show (bcel (bitsL a))[k]? = some (.bool (a.testBit k)) by rw [bcel_get _ k (by rw [bitsL_length]; exact hk), bitsL_get])
  have HLB := Lib.hid (fun k (hk : k < 256) => show (bcel (bitsL b))[k]? = some (.bool (b.testBit k)) by rw [bcel_get _ k (by rw [bitsL_length]; exact hk), bitsL_get])
  have HBS := Lib.hid (fun k hk => bitsK_set (a + b + c.toNat) k hk)
  have HBZ := Lib.hid (bitsK_zero (a + b + c.toNat))
  have HBA := Lib.hid (bitsK_all (a + b + c.toNat))
  have HBL := Lib.hid (fun k hk => bitsK_length (a + b + c.toNat) k hk)
  have HLS := Lib.hid (bitsL_length (a + b + c.toNat))
  clear ha hb
  generalize a + b + c.toNat = s at *
  go_enter Try.func56, Try.ntmps56
  go_wp2
  replace hz := Lib.hid hz
  replace hs := Lib.hid hs
  go_loopw [2, 9] (fun cv i wr => ∃ k : Nat, k ≤ 256 ∧ i = .int .i64 k ∧ cv = .bool (carB2 a b c k) ∧ Hid (Nx w wr) ∧ Row wr w.heap.size (bcel (bitsL a)) 60 ∧ Row wr (w.heap.size + 1) (bcel (bitsL b)) 60 ∧ Row wr (w.heap.size + 1 + 1) (bcel zb) 60 ∧ Row wr (w.heap.size + 1 + 1 + 1) (bcel (bitsK s k)) 60) (fun _ i _ => 256 - (intOf i).toNat)
  case atStart =>
    refine ⟨0, by omega, rfl, by rw [HC0.out], ((((Nx.refl w).alloc _).alloc _).alloc _).alloc _, (((Row.new _ _ _ _ rfl).alloc _).alloc _).alloc _, ((Row.new2 _ _ _ _).alloc _).alloc _, (Row.new3 _ _ _ _ _).alloc _, ?_⟩
    rw [HBZ.out]
    exact Row.new _ _ _ _ (by simp)
  case round =>
    obtain ⟨k, hk, rfl, rfl, HN, R0, R1, R2, R3⟩ := hrel
    by_cases hlt : k < 256
    · have hki : (k : Int) < 256 := by omega
      have hk0 : (0 : Int) ≤ (k : Int) := by omega
      have ca := R0.cell (HLA.out k hlt)
      have cb := R1.cell (HLB.out k hlt)
      obtain ⟨v3, c3⟩ : ∃ v, wr.cell? ⟨w.heap.size + 1 + 1 + 1, k, none⟩ = some v := ⟨_, R3.cell (bcel_get _ k (by rw [HBL.out k hk]; exact hlt))⟩
      have f3 := R3.frozen
      have HS1 := Lib.hid (HST.out k)
      have HS2 := Lib.hid (HBS.out k hlt)
      generalize a.testBit k = x at *
      generalize b.testBit k = y at *
      generalize hcy : carB2 a b c k = cy at *
      clear hcy HST HBS HLA HLB
      rcases x with _ | _ <;> rcases y with _ | _ <;> rcases cy with _ | _
      all_goals
        go_wp2
        go_roundw
        case rel =>
          refine ⟨k + 1, by omega, by go_num, by rw [HS1.out.2]; rfl, HN.out.setAt _ (by omega), R0.other _ _ _ (by omega), R1.other _ _ _ (by omega), R2.other _ _ _ (by omega), ?_⟩
          rw [← HS2.out, HS1.out.1, ← bcel_set]
          exact R3.set k _
        case measure => simp [intOf]; omega
    · obtain rfl : k = 256 := by omega
      rw [HBA.out] at R3
      rw [HCA.out]
      have hsz : (Try.prog.info? 60).map (·.size) = some (bcel (bitsL s)).size := by rw [bcel_size, HLS.out]; exact hs.out
      have hsz := Lib.hid hsz
      have ho : (bcel zb).size = (bcel (bitsL s)).size := by rw [bcel_size, bcel_size, HLS.out, zb, List.length_replicate]
      have ho := Lib.hid ho
      have hl : w.heap.size ≤ w.heap.size + 1 + 1 := by omega
      have R3' := R3
      have R2' := R2
      generalize hcc : decide (top ≤ s) = cc at *
      replace hcc := Lib.hid hcc
      go_wp2_with (first | (refine wpList_load_row rfl 60 (.tmp 8) rfl (w.heap.size + 1 + 1 + 1) rfl 60 (bcel (bitsL s)) (0, 0) _ R3' Try.underlying60 rfl hsz.out ?_) | (refine wpList_store_row rfl 60 (.tmp 6) (.tmp 35) rfl (w.heap.size + 1 + 1) (bcel (bitsL s)) rfl rfl 60 (bcel zb) R2' hsz.out ho.out (bcel_one _) ?_))
      exact bodyPost_ret (results_row_tmp Try.results56 _ _ (w.heap.size + 1 + 1) 60 (bcel (bitsL s)) (0, 0) _ rfl (R2'.setRow _) Try.underlying60 rfl hsz.out) rfl ⟨by rw [hcc.out]; rfl, HN.out.setRow _ hl⟩

/-- Turned over from below, k bits done. -/
def notK (a k : Nat) : List Bool := (bitsL (turnN a)).take k ++ (bitsL a).drop k
theorem turn_bit (a k : Nat) (ha : a < top) (hk : k < 256) : (turnN a).testBit k = !(a.testBit k) := by
  unfold turnN
  rw [top_eq] at *
  rw [show 2 ^ 256 - 1 - a = 2 ^ 256 - (a + 1) by omega, Nat.testBit_two_pow_sub_succ ha]
  simp [hk]
theorem notK_length (a k : Nat) (hk : k ≤ 256) : (notK a k).length = 256 := by simp [notK, bitsL_length]; omega
theorem notK_get (a k : Nat) (hk : k < 256) (h : k < (notK a k).length) : (notK a k)[k] = a.testBit k := by
  unfold notK at *
  rw [List.getElem_append_right (by rw [List.length_take, bitsL_length]; omega), List.getElem_drop, bitsL_get]
  congr 1
  rw [List.length_take, bitsL_length]; omega
theorem notK_set (a k : Nat) (ha : a < top) (hk : k < 256) : (notK a k).set k (!(a.testBit k)) = notK a (k + 1) := by
  unfold notK
  have h1 : k < (bitsL (turnN a)).length := by rw [bitsL_length]; exact hk
  have h2 : k < (bitsL a).length := by rw [bitsL_length]; exact hk
  rw [List.take_succ_eq_append_getElem h1, bitsL_get, turn_bit a k ha hk, List.drop_eq_getElem_cons h2, List.append_assoc]
  have := List.set_append_right k (!(a.testBit k)) (s := (bitsL (turnN a)).take k) (t := (bitsL a)[k] :: (bitsL a).drop (k + 1)) (by rw [List.length_take]; omega)
  rw [this]
  have e : k - ((bitsL (turnN a)).take k).length = 0 := by rw [List.length_take, bitsL_length]; omega
  rw [e]
  rfl
theorem notK_zero (a : Nat) : notK a 0 = bitsL a := by rw [notK, List.take_zero, List.nil_append, List.drop_zero]
theorem notK_all (a : Nat) : notK a 256 = bitsL (turnN a) := by
  rw [notK, List.take_of_length_le (by rw [bitsL_length]; omega), List.drop_of_length_le (by rw [bitsL_length]; omega), List.append_nil]

set_option maxHeartbeats 4000000 in
theorem refNot_any (a : Nat) (w : World) (ha : a < top) :
    Calls Try.prog 58 #[.agg (bcel (bitsL a))] w fun e w' => e = .returned (.agg (bcel (bitsL (turnN a)))) ∧ Nx w w' := by
  obtain ⟨hz, hs⟩ := zero_of_info info_bits
  have HS := Lib.hid (fun k hk => notK_set a k ha hk)
  have HZ := Lib.hid (notK_zero a)
  have HA := Lib.hid (notK_all a)
  have HLS := Lib.hid (bitsL_length (turnN a))
  clear ha
  go_enter Try.func58, Try.ntmps58
  go_wp2
  replace hz := Lib.hid hz
  replace hs := Lib.hid hs
  go_loopw [3] (fun i wr => ∃ k : Nat, k ≤ 256 ∧ i = .int .i64 k ∧ Hid (Nx w wr) ∧ Row wr w.heap.size (bcel (notK a k)) 60 ∧ Row wr (w.heap.size + 1) (bcel zb) 60) (fun i _ => 256 - (intOf i).toNat)
  case atStart =>
    refine ⟨0, by omega, rfl, ((Nx.refl w).alloc _).alloc _, ?_, Row.new2 _ _ _ _⟩
    rw [HZ.out]
    exact (Row.new _ _ _ _ rfl).alloc _
  case round =>
    obtain ⟨k, hk, rfl, HN, R0, R1⟩ := hrel
    by_cases hlt : k < 256
    · have hki : (k : Int) < 256 := by omega
      have hk0 : (0 : Int) ≤ (k : Int) := by omega
      have hl := notK_length a k hk
      have ca : wr.cell? ⟨w.heap.size, k, none⟩ = some (.bool (a.testBit k)) := by
        have h2 : k < (notK a k).length := by rw [hl]; exact hlt
        rw [R0.cell (bcel_get _ k h2), notK_get a k hlt h2]
      have f0 := R0.frozen
      have HS2 := Lib.hid (HS.out k hlt)
      generalize a.testBit k = x at *
      clear hl
      rcases x with _ | _
      all_goals
        go_wp2
        go_roundw
        case rel =>
          refine ⟨k + 1, by omega, by go_num, HN.out.setAt _ (by omega), ?_, R1.other _ _ _ (by omega)⟩
          rw [← HS2.out, ← bcel_set]
          exact R0.set k _
        case measure => simp [intOf]; omega
    · obtain rfl : k = 256 := by omega
      rw [HA.out] at R0
      have hsz : (Try.prog.info? 60).map (·.size) = some (bcel (bitsL (turnN a))).size := by rw [bcel_size, HLS.out]; exact hs.out
      have hsz := Lib.hid hsz
      have ho : (bcel zb).size = (bcel (bitsL (turnN a))).size := by rw [bcel_size, bcel_size, HLS.out, zb, List.length_replicate]
      have ho := Lib.hid ho
      have hl : w.heap.size ≤ w.heap.size + 1 := by omega
      have R0' := R0
      have R1' := R1
      go_wp2_with (first | (refine wpList_load_row rfl 60 (.tmp 1) rfl w.heap.size rfl 60 (bcel (bitsL (turnN a))) (0, 0) _ R0' Try.underlying60 rfl hsz.out ?_) | (refine wpList_store_row rfl 60 (.tmp 2) (.tmp 14) rfl (w.heap.size + 1) (bcel (bitsL (turnN a))) rfl rfl 60 (bcel zb) R1' hsz.out ho.out (bcel_one _) ?_))
      exact bodyPost_ret (results_cell_row Try.results58 _ _ (w.heap.size + 1) 60 (bcel (bitsL (turnN a))) (0, 0) _ rfl (R1'.setRow _) Try.underlying60 rfl hsz.out) rfl ⟨rfl, HN.out.setRow _ hl⟩
end Go.Proofs.Ytggemncdnclhnaa
