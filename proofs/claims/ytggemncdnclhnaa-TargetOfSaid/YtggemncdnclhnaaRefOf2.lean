/- THE REFERENCE OF LAYER 3: ToHash, Len. -/
import Derived.Test.YtggemncdnclhnaaRefOf
namespace Go.Proofs.Ytggemncdnclhnaa
open Go.RowKit
set_option linter.unusedVariables false
set_option linter.unusedSimpArgs false

/-- The limbs of which k bytes have been taken off. -/
def shK (a k q : Nat) : Nat := lim a q / 2 ^ (8 * k - 64 * q)
def scel (a k : Nat) : Array Value := #[.int .u64 (shK a k 0 : Int), .int .u64 (shK a k 1 : Int), .int .u64 (shK a k 2 : Int), .int .u64 (shK a k 3 : Int)]
theorem shK_lt (a k q : Nat) : shK a k q < 18446744073709551616 := Nat.lt_of_le_of_lt (Nat.div_le_self _ _) (lim_lt a q)
theorem shK_gone (a k q : Nat) (h : 64 * (q + 1) ≤ 8 * k) : shK a k q = 0 := by
  unfold shK
  refine Nat.div_eq_of_lt (Nat.lt_of_lt_of_le (lim_lt a q) ?_)
  rw [show (18446744073709551616 : Nat) = 2 ^ 64 by decide +kernel]
  exact Nat.pow_le_pow_right (by decide) (by omega)
theorem shK_other (a k q i : Nat) (h : k / 8 = q) (hi : i ≠ q) : shK a (k + 1) i = shK a k i := by
  rcases Nat.lt_or_ge i q with hl | hl
  · rw [shK_gone _ _ _ (by omega), shK_gone _ _ _ (by omega)]
  · unfold shK
    rw [show 8 * (k + 1) - 64 * i = 0 by omega, show 8 * k - 64 * i = 0 by omega]
theorem shK_here (a k q : Nat) (h : k / 8 = q) : shK a (k + 1) q = shK a k q / 256 := by
  unfold shK
  rw [Nat.div_div_eq_div_mul, show (2 : Nat) ^ (8 * k - 64 * q) * 256 = 2 ^ (8 * k - 64 * q + 8) by rw [Nat.pow_add], show 8 * (k + 1) - 64 * q = 8 * k - 64 * q + 8 by omega]
theorem shK_byte (a k q : Nat) (h : k / 8 = q) : (shK a k q : Int) % 256 = ((UInt8.ofNat (a / 256 ^ k)).toNat : Int) := by
  have hb := low_byte a k q (8 * k - 64 * q) (by omega) (by omega)
  rw [div_pow] at hb
  exact hb
theorem scel_set (a k q : Nat) (hq : q < 4) (h : k / 8 = q) : (scel a k).setIfInBounds q (.int .u64 (shK a (k + 1) q : Int)) = scel a (k + 1) := by
  unfold scel
  have O := shK_other a k q
  have hq' : q = 0 ∨ q = 1 ∨ q = 2 ∨ q = 3 := by omega
  rcases hq' with rfl | rfl | rfl | rfl
  · rw [O 1 h (by omega), O 2 h (by omega), O 3 h (by omega)]; rfl
  · rw [O 0 h (by omega), O 2 h (by omega), O 3 h (by omega)]; rfl
  · rw [O 0 h (by omega), O 1 h (by omega), O 3 h (by omega)]; rfl
  · rw [O 0 h (by omega), O 1 h (by omega), O 2 h (by omega)]; rfl
theorem scel_zero (a : Nat) : scel a 0 = #[.int .u64 (lim a 0 : Int), .int .u64 (lim a 1 : Int), .int .u64 (lim a 2 : Int), .int .u64 (lim a 3 : Int)] := by
  unfold scel shK
  simp

set_option maxHeartbeats 2000000 in
theorem refToHash_any (a : Nat) (w : World) :
    Calls Try.prog 20 #[.agg #[.int .u64 (lim a 0 : Int), .int .u64 (lim a 1 : Int), .int .u64 (lim a 2 : Int), .int .u64 (lim a 3 : Int)]] w fun e w' => e = .returned (.agg (hcel (low a 32))) ∧ Nx w w' := by
  go_enter Try.func20, Try.ntmps20
  go_wp2
  go_loopw [4] (fun i wr => ∃ k : Nat, k ≤ 32 ∧ i = .int .i64 k ∧ Hid (Nx w wr) ∧ Row wr w.heap.size (scel a k) 24 ∧ Row wr (w.heap.size + 1) (hcel (List.replicate 32 0)) 26 ∧ Row wr (w.heap.size + 1 + 1) (hcel (low a k ++ List.replicate (32 - k) 0)) 26) (fun i _ => 32 - (intOf i).toNat)
  case atStart =>
    refine ⟨0, by omega, rfl, (((Nx.refl w).alloc _).alloc _).alloc _, ?_, (Row.new2 _ _ _ _).alloc _, Row.new3 _ _ _ _ _⟩
    rw [scel_zero]
    exact ((Row.new _ _ _ _ rfl).alloc _).alloc _
  case round =>
    obtain ⟨k, hk, rfl, HN, R0, R1, R2⟩ := hrel
    by_cases hlt : k < 32
    · obtain ⟨q, hq⟩ : ∃ q : Nat, (k : Int) / 8 = (q : Int) := ⟨k / 8, by omega⟩
      have HQ : Hid (q < 4) := show _ < _ by omega
      have HJQ : Hid (k / 8 = q) := show _ = _ by omega
      have hb := shK_byte a k q HJQ.out
      have HC := Lib.hid (scel_set a k q HQ.out HJQ.out)
      have HH := Lib.hid (shK_here a k q HJQ.out)
      have HF := Lib.hid (fill_set a k hlt)
      have hk0 : (0 : Int) ≤ (k : Int) := by omega
      have hki : (k : Int) < 32 := by omega
      have cq : wr.cell? ⟨w.heap.size, q, none⟩ = some (.int .u64 (shK a k q : Int)) := by
        have hq' : q = 0 ∨ q = 1 ∨ q = 2 ∨ q = 3 := by have := HQ.out; omega
        rcases hq' with rfl | rfl | rfl | rfl <;> exact R0.cell rfl
      have f0 := R0.frozen
      obtain ⟨v2, c2⟩ : ∃ v, wr.cell? ⟨w.heap.size + 1 + 1, k, none⟩ = some v := ⟨_, R2.cell (hcel_get _ k (by simp; omega))⟩
      have f2 := R2.frozen
      have hyl : (shK a k q : Int) ≤ 18446744073709551615 := by have := shK_lt a k q; omega
      rw [HH.out] at HC
      generalize shK a k q = y at *
      generalize UInt8.ofNat (a / 256 ^ k) = x at *
      have hwb : IntKind.u8.wrap (x.toNat : Int) = (x.toNat : Int) := by have := x.toNat_lt; rw [IntKind.wrap_u8]; omega
      have HY : Hid (((y / 256 : Nat) : Int) = (y : Int) / 256) := show _ = _ by omega
      have hv0 : IntKind.i64.wrap (0 : Int) = 0 := by decide
      have hq' : q = 0 ∨ q = 1 ∨ q = 2 ∨ q = 3 := by have := HQ.out; omega
      rcases hq' with rfl | rfl | rfl | rfl
      · have hq2 : (k : Int) / 8 = 0 := hq
        clear hq
        go_wp2
        go_roundw
        case rel =>
          refine ⟨k + 1, by omega, by go_num, (HN.out.setAt _ (by omega)).setAt _ (by omega), ?_, (R1.other _ _ _ (by omega)).other _ _ _ (by omega), ?_⟩
          · rw [← HC.out, HY.out]
            exact (R0.other _ _ _ (by omega)).set 0 _
          · rw [← HF.out, ← hcel_set _ k _ (by simp; omega)]
            exact (R2.set k _).other _ _ _ (by omega)
        case measure => simp [intOf]; omega
      · have hq2 : (k : Int) / 8 = 1 := hq
        clear hq
        go_wp2
        go_roundw
        case rel =>
          refine ⟨k + 1, by omega, by go_num, (HN.out.setAt _ (by omega)).setAt _ (by omega), ?_, (R1.other _ _ _ (by omega)).other _ _ _ (by omega), ?_⟩
          · rw [← HC.out, HY.out]
            exact (R0.other _ _ _ (by omega)).set 1 _
          · rw [← HF.out, ← hcel_set _ k _ (by simp; omega)]
            exact (R2.set k _).other _ _ _ (by omega)
        case measure => simp [intOf]; omega
      · have hq2 : (k : Int) / 8 = 2 := hq
        clear hq
        go_wp2
        go_roundw
        case rel =>
          refine ⟨k + 1, by omega, by go_num, (HN.out.setAt _ (by omega)).setAt _ (by omega), ?_, (R1.other _ _ _ (by omega)).other _ _ _ (by omega), ?_⟩
          · rw [← HC.out, HY.out]
            exact (R0.other _ _ _ (by omega)).set 2 _
          · rw [← HF.out, ← hcel_set _ k _ (by simp; omega)]
            exact (R2.set k _).other _ _ _ (by omega)
        case measure => simp [intOf]; omega
      · have hq2 : (k : Int) / 8 = 3 := hq
        clear hq
        go_wp2
        go_roundw
        case rel =>
          refine ⟨k + 1, by omega, by go_num, (HN.out.setAt _ (by omega)).setAt _ (by omega), ?_, (R1.other _ _ _ (by omega)).other _ _ _ (by omega), ?_⟩
          · rw [← HC.out, HY.out]
            exact (R0.other _ _ _ (by omega)).set 3 _
          · rw [← HF.out, ← hcel_set _ k _ (by simp; omega)]
            exact (R2.set k _).other _ _ _ (by omega)
        case measure => simp [intOf]; omega
    · obtain rfl : k = 32 := by omega
      have R2' : Row wr (w.heap.size + 1 + 1) (hcel (low a 32)) 26 := by
        have := R2
        simp only [Nat.sub_self, List.replicate_zero, List.append_nil] at this
        exact this
      have hsz : (Try.prog.info? 26).map (·.size) = some (hcel (low a 32)).size := by rw [hcel_size, low_length]; exact info_hash
      have hsz := Lib.hid hsz
      have ho : (hcel (List.replicate 32 0)).size = (hcel (low a 32)).size := by rw [hcel_size, hcel_size, low_length]; simp
      have ho := Lib.hid ho
      have R1' := R1
      have hl : w.heap.size ≤ w.heap.size + 1 := by omega
      go_wp2_with (first | (refine wpList_load_row rfl 26 (.tmp 3) rfl (w.heap.size + 1 + 1) rfl 26 (hcel (low a 32)) (0, 0) _ R2' Try.underlying26 rfl hsz.out ?_) | (refine wpList_store_row rfl 26 (.tmp 2) (.tmp 25) rfl (w.heap.size + 1) (hcel (low a 32)) rfl rfl 26 (hcel (List.replicate 32 0)) R1' hsz.out ho.out (hcel_one _) ?_))
      exact bodyPost_ret (results_cell_row Try.results20 _ _ (w.heap.size + 1) 26 (hcel (low a 32)) (0, 0) _ rfl (R1'.setRow _) Try.underlying26 rfl hsz.out) rfl ⟨rfl, HN.out.setRow _ hl⟩

/-- One bit more. -/
theorem blen_step (a k : Nat) : blen (a % 2 ^ (k + 1)) = if a.testBit k then k + 1 else blen (a % 2 ^ k) := by
  have hm : a % 2 ^ (k + 1) = a % 2 ^ k + 2 ^ k * (a / 2 ^ k % 2) := by rw [Nat.pow_succ]; exact mod_step _ _ _
  have hb := bit_mod a k
  have hp : 0 < 2 ^ k := Nat.pow_pos (by decide)
  have hlt := Nat.mod_lt a hp
  rw [hm, hb]
  rcases ht : a.testBit k with _ | _
  · simp
  · simp only [Bool.toNat_true, Nat.mul_one, if_true]
    refine blen_of (by omega) (by omega) ?_
    rw [Nat.pow_succ]; omega
set_option maxHeartbeats 2000000 in
theorem refLen_any (a : Nat) (w : World) (ha : a < top) :
    Calls Try.prog 24 #[.agg #[.int .u64 (lim a 0 : Int), .int .u64 (lim a 1 : Int), .int .u64 (lim a 2 : Int), .int .u64 (lim a 3 : Int)]] w fun e w' => e = .returned (.int .i64 (blen a : Int)) ∧ Nx w w' := by
  obtain ⟨hz, hs⟩ := zero_of_info info_bits
  have HB := Lib.hid (fun w => refBits_any a w)
  have HSZ : Hid ((Try.prog.info? 60).map (·.size) = some (bcel (bitsL a)).size) := Lib.hid (by rw [bcel_size, bitsL_length]; exact hs)
  have HO : Hid ((bcel zb).size = (bcel (bitsL a)).size) := Lib.hid (by rw [bcel_size, bcel_size, bitsL_length, zb, List.length_replicate])
  have HE : Hid (blen (a % 2 ^ 256) = blen a) := Lib.hid (by rw [Nat.mod_eq_of_lt (top_eq ▸ ha)])
  have HZ : Hid (blen (a % 2 ^ 0) = 0) := Lib.hid (by rw [Nat.pow_zero, Nat.mod_one]; rfl)
  have HSTEP := Lib.hid (blen_step a)
  replace hs := Lib.hid hs
  clear ha
  go_enter Try.func24, Try.ntmps24
  go_wp2_with fail
  refine (HB.out _).mono ?_
  rintro e w1 ⟨rfl, hb1⟩
  have N1 := Lib.hid (((Nx.refl w).alloc (.cells #[.int .u64 (lim a 0 : Int), .int .u64 (lim a 1 : Int), .int .u64 (lim a 2 : Int), .int .u64 (lim a 3 : Int)] 24)).trans hb1)
  have RT := Row.new w1 (bcel zb) 60 w1.heap.size rfl
  go_wp2_with (first | (refine wpList_store_row rfl 60 (.tmp 3) (.tmp 7) rfl w1.heap.size (bcel (bitsL a)) rfl rfl 60 (bcel zb) RT HSZ.out HO.out (bcel_one _) ?_))
  have RX := Lib.hid (RT.setRow (bcel (bitsL a)))
  replace N1 := Lib.hid ((N1.out.alloc (.cells (bcel zb) 60)).setRow (g := w1.heap.size) (bcel (bitsL a)) N1.out.size)
  clear RT hb1 hz
  go_loop [4, 5] (fun n i => ∃ k : Nat, k ≤ 256 ∧ i = .int .i64 k ∧ n = .int .i64 (blen (a % 2 ^ k) : Int)) (fun _ i => 256 - (intOf i).toNat)
  case atStart => exact ⟨0, by omega, rfl, by rw [HZ.out]; rfl⟩
  case round =>
    obtain ⟨k, hk, rfl, rfl⟩ := hrel
    by_cases hlt : k < 256
    · have hki : (k : Int) < 256 := by omega
      have hk0 : (0 : Int) ≤ (k : Int) := by omega
      have ck := RX.out.cell (bcel_get (bitsL a) k (by rw [bitsL_length]; exact hlt))
      rw [bitsL_get] at ck
      have HS := Lib.hid (HSTEP.out k)
      generalize hx : a.testBit k = x at *
      rcases x with _ | _
      all_goals
        clear hx
        go_wp2
        go_round
        case rel => exact ⟨k + 1, by omega, by go_num, by rw [HS.out]; rfl⟩
        case measure => simp [intOf]; omega
    · obtain rfl : k = 256 := by omega
      rw [HE.out]
      go_wp2
      go_ret
      exact ⟨rfl, N1.out⟩
end Go.Proofs.Ytggemncdnclhnaa
