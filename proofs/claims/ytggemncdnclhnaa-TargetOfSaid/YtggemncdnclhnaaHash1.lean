/- CONTRACTS OF LAYER 3: OfHash, ToHash. -/
import Derived.Test.YtggemncdnclhnaaHashPure
import Derived.Test.YtggemncdnclhnaaRowU
import Derived.StillTailTactics
import Derived.Laws.Rows
import Derived.Laws.Tables
namespace Go.Proofs.Ytggemncdnclhnaa
open Go.RowKit
set_option linter.unusedVariables false
set_option linter.unusedSimpArgs false

theorem info_hash : (Try.prog.info? 26).map (·.size) = some 32 := by kernel_rfl

theorem lim_nought' : lim 0 0 = 0 ∧ lim 0 1 = 0 ∧ lim 0 2 = 0 ∧ lim 0 3 = 0 := by decide
set_option maxHeartbeats 2000000 in
theorem ofHash_any (h : List UInt8) (w : World) (hh : h.length = 32) :
    Calls Try.prog 17 #[.agg (hcel h)] w fun e w' => e = .returned (.agg #[.int .u64 (lim (num h) 0 : Int), .int .u64 (lim (num h) 1 : Int), .int .u64 (lim (num h) 2 : Int), .int .u64 (lim (num h) 3 : Int)]) ∧ Nx w w' := by
  have HI := Lib.hid (fun i (hi : i < h.length) w => run_index_bytes (P := Try.prog) 26 5 32 Try.underlying26 Try.isAgg5 Try.sizeOf5 h hh i hi w)
  have HL := Lib.hid hh
  have hsz : (Try.prog.info? 26).map (·.size) = some (hcel h).size := by rw [hcel_size, hh]; exact info_hash
  replace hsz := Lib.hid hsz
  clear hh
  go_enter Try.func17, Try.ntmps17
  go_wp2_with (refine wpList_load_row rfl 26 (.tmp 1) rfl w.heap.size rfl 26 (hcel h) (0, 0) _ (((Row.new w (hcel h) 26 _ rfl).alloc _).alloc _) Try.underlying26 rfl hsz.out ?_)
  go_loopw [7] (fun i wr => ∃ k : Nat, k ≤ 32 ∧ i = .int .i64 k ∧ Hid (Nx w wr) ∧ Row wr (w.heap.size + 1) #[.int .u64 0, .int .u64 0, .int .u64 0, .int .u64 0] 24 ∧ Row wr (w.heap.size + 1 + 1) #[.int .u64 (lim (num (h.take k)) 0 : Int), .int .u64 (lim (num (h.take k)) 1 : Int), .int .u64 (lim (num (h.take k)) 2 : Int), .int .u64 (lim (num (h.take k)) 3 : Int)] 24) (fun i _ => 32 - (intOf i).toNat)
  case atStart =>
    refine ⟨0, by omega, rfl, (((Nx.refl w).alloc _).alloc _).alloc _, (Row.new2 _ _ _ _).alloc _, ?_⟩
    obtain ⟨z0, z1, z2, z3⟩ := lim_nought'
    rw [show num (List.take 0 h) = 0 from rfl, z0, z1, z2, z3]
    exact Row.new3 _ _ _ _ _
  case round =>
    obtain ⟨k, hk, rfl, HN, R1, R2⟩ := hrel
    by_cases hlt : k < 32
    · have hkl : k < h.length := by have := HL.out; omega
      have hidx := HI.out k hkl
      have HS := Lib.hid (num_take h k hkl)
      have HT := Lib.hid (num_take_lt h k (by omega))
      have HX : Hid ((h[k]).toNat < 256) := show _ < _ by have := (h[k]).toNat_lt; omega
      generalize h[k] = x at *
      generalize num (h.take k) = t at *
      obtain ⟨q, hq⟩ : ∃ q : Nat, (k : Int) / 8 = (q : Int) := ⟨k / 8, by omega⟩
      obtain ⟨r, hr⟩ : ∃ r : Nat, (k : Int) % 8 = (r : Int) := ⟨k % 8, by omega⟩
      obtain ⟨p, hp⟩ : ∃ p : Nat, (r : Int) * 8 = (p : Int) := ⟨r * 8, by omega⟩
      have HQ : Hid (q < 4) := show _ < _ by omega
      have HQP : Hid (8 * k = 64 * q + p) := show _ = _ by omega
      have HP : Hid (p ≤ 56) := show _ ≤ _ by omega
      have HB2 := Lib.hid (set_digit t x.toNat (8 * k) q p HQ.out HQP.out HX.out HP.out HT.out)
      have hp0 : (0 : Int) ≤ (p : Int) := by omega
      have hp1 : (p : Int) ≤ 64 := by omega
      have hk0 : (0 : Int) ≤ (k : Int) := by omega
      have hw0 : IntKind.i64.wrap (0 : Int) = 0 := by decide
      have hw1 : IntKind.i64.wrap (1 : Int) = 1 := by decide
      have hw2 : IntKind.i64.wrap (2 : Int) = 2 := by decide
      have hw3 : IntKind.i64.wrap (3 : Int) = 3 := by decide
      have hwx : IntKind.u64.wrap (x.toNat : Int) = (x.toNat : Int) := by rw [IntKind.wrap_u64]; have := x.toNat_lt; omega
      have hwr : IntKind.i64.wrap (r : Int) = (r : Int) := IntWalk.i64_in _ (by omega)
      have hwp : IntKind.i64.wrap (p : Int) = (p : Int) := IntWalk.i64_in _ (by omega)
      have hrt : (k : Int).tmod 8 = (r : Int) := by rw [Int.tmod_eq_emod_of_nonneg hk0]; exact hr
      obtain ⟨t0, t1, t2, t3⟩ := R2.four
      have ft := R2.frozen
      have hq' : q = 0 ∨ q = 1 ∨ q = 2 ∨ q = 3 := by have := HQ.out; omega
      clear HI
      rcases hq' with rfl | rfl | rfl | rfl
      · have hq2 : (k : Int) / 8 = 0 := hq
        clear hq
        go_wp2
        go_still_tail 12, (by kernel_rfl)
        change wpList _ _ _ _ _ wr.drew
        go_wp2
        go_roundw
        case rel =>
          refine ⟨k + 1, by omega, by go_num, (HN.out.drew.setAt _ (by omega)), R1.drew.other _ _ _ (by omega), ?_⟩
          rw [HS.out, ← HB2.out]
          exact R2.drew.set 0 _
        case measure => simp [intOf]; omega
      · have hq2 : (k : Int) / 8 = 1 := hq
        clear hq
        go_wp2
        go_still_tail 12, (by kernel_rfl)
        change wpList _ _ _ _ _ wr.drew
        go_wp2
        go_roundw
        case rel =>
          refine ⟨k + 1, by omega, by go_num, (HN.out.drew.setAt _ (by omega)), R1.drew.other _ _ _ (by omega), ?_⟩
          rw [HS.out, ← HB2.out]
          exact R2.drew.set 1 _
        case measure => simp [intOf]; omega
      · have hq2 : (k : Int) / 8 = 2 := hq
        clear hq
        go_wp2
        go_still_tail 12, (by kernel_rfl)
        change wpList _ _ _ _ _ wr.drew
        go_wp2
        go_roundw
        case rel =>
          refine ⟨k + 1, by omega, by go_num, (HN.out.drew.setAt _ (by omega)), R1.drew.other _ _ _ (by omega), ?_⟩
          rw [HS.out, ← HB2.out]
          exact R2.drew.set 2 _
        case measure => simp [intOf]; omega
      · have hq2 : (k : Int) / 8 = 3 := hq
        clear hq
        go_wp2
        go_still_tail 12, (by kernel_rfl)
        change wpList _ _ _ _ _ wr.drew
        go_wp2
        go_roundw
        case rel =>
          refine ⟨k + 1, by omega, by go_num, (HN.out.drew.setAt _ (by omega)), R1.drew.other _ _ _ (by omega), ?_⟩
          rw [HS.out, ← HB2.out]
          exact R2.drew.set 3 _
        case measure => simp [intOf]; omega
    · obtain rfl : k = 32 := by omega
      have HE : Hid (h.take 32 = h) := show _ = _ from List.take_of_length_le (by rw [HL.out]; omega)
      rw [HE.out] at R2
      clear HI hsz
      obtain ⟨t0, t1, t2, t3⟩ := R2.four
      obtain ⟨z0, z1, z2, z3⟩ := R1.zero4
      have f1 := R1.frozen
      go_wp2
      exact bodyPost_ret (v := .agg #[.int .u64 (lim (num h) 0 : Int), .int .u64 (lim (num h) 1 : Int), .int .u64 (lim (num h) 2 : Int), .int .u64 (lim (num h) 3 : Int)]) (by simp [results, Try.results17, go_sem, t0, t1, t2, t3, z0, z1, z2, z3, f1]) rfl
        ⟨rfl, by repeat (first | with_reducible exact HN.out | with_reducible apply Nx.drew | with_reducible refine Nx.setAt ?_ _ (by omega))⟩

theorem fill_set (a k : Nat) (hk : k < 32) : (low a k ++ List.replicate (32 - k) (0 : UInt8)).set k (UInt8.ofNat (a / 256 ^ k)) = low a (k + 1) ++ List.replicate (32 - (k + 1)) 0 := by
  rw [low_snoc, show 32 - k = (32 - (k + 1)) + 1 by omega, List.replicate_succ, List.append_assoc]
  have := List.set_append_right k (UInt8.ofNat (a / 256 ^ k)) (s := low a k) (t := 0 :: List.replicate (32 - (k + 1)) 0) (by simp)
  rw [this]
  simp
set_option maxHeartbeats 2000000 in
theorem toHash_any (a : Nat) (w : World) :
    Calls Try.prog 19 #[.agg #[.int .u64 (lim a 0 : Int), .int .u64 (lim a 1 : Int), .int .u64 (lim a 2 : Int), .int .u64 (lim a 3 : Int)]] w fun e w' => e = .returned (.agg (hcel (low a 32))) ∧ Nx w w' := by
  go_enter Try.func19, Try.ntmps19
  go_wp2
  go_loopw [5] (fun i wr => ∃ k : Nat, k ≤ 32 ∧ i = .int .i64 k ∧ Hid (Nx w wr) ∧ Row wr w.heap.size #[.int .u64 (lim a 0 : Int), .int .u64 (lim a 1 : Int), .int .u64 (lim a 2 : Int), .int .u64 (lim a 3 : Int)] 24 ∧ Row wr (w.heap.size + 1) (hcel (List.replicate 32 0)) 26 ∧ Row wr (w.heap.size + 1 + 1) (hcel (low a k ++ List.replicate (32 - k) 0)) 26) (fun i _ => 32 - (intOf i).toNat)
  case atStart =>
    exact ⟨0, by omega, rfl, (((Nx.refl w).alloc _).alloc _).alloc _, ((Row.new _ _ _ _ rfl).alloc _).alloc _, (Row.new2 _ _ _ _).alloc _, Row.new3 _ _ _ _ _⟩
  case round =>
    obtain ⟨k, hk, rfl, HN, R0, R1, R2⟩ := hrel
    by_cases hlt : k < 32
    · obtain ⟨q, hq⟩ : ∃ q : Nat, (k : Int) / 8 = (q : Int) := ⟨k / 8, by omega⟩
      obtain ⟨r, hr⟩ : ∃ r : Nat, (k : Int) % 8 = (r : Int) := ⟨k % 8, by omega⟩
      obtain ⟨p, hp⟩ : ∃ p : Nat, (r : Int) * 8 = (p : Int) := ⟨r * 8, by omega⟩
      have HQ : Hid (q < 4) := show _ < _ by omega
      have HB2 := Lib.hid (low_byte a k q p (by omega) (by omega))
      have hp0 : (0 : Int) ≤ (p : Int) := by omega
      have hp1 : (p : Int) ≤ 64 := by omega
      have hk0 : (0 : Int) ≤ (k : Int) := by omega
      have hki : (k : Int) < 32 := by omega
      obtain ⟨t0, t1, t2, t3⟩ := R0.four
      obtain ⟨v2, c2⟩ : ∃ v, wr.cell? ⟨w.heap.size + 1 + 1, k, none⟩ = some v := ⟨_, R2.cell (hcel_get _ k (by simp; omega))⟩
      have f2 := R2.frozen
      have hq' : q = 0 ∨ q = 1 ∨ q = 2 ∨ q = 3 := by have := HQ.out; omega
      rcases hq' with rfl | rfl | rfl | rfl
      · have hq2 : (k : Int) / 8 = 0 := hq
        clear hq
        go_wp2
        go_roundw
        case rel =>
          refine ⟨k + 1, by omega, by go_num, HN.out.setAt _ (by omega), R0.other _ _ _ (by omega), R1.other _ _ _ (by omega), ?_⟩
          rw [HB2.out, ← fill_set a k hlt, ← hcel_set _ k _ (by simp; omega)]
          exact R2.set k _
        case measure => simp [intOf]; omega
      · have hq2 : (k : Int) / 8 = 1 := hq
        clear hq
        go_wp2
        go_roundw
        case rel =>
          refine ⟨k + 1, by omega, by go_num, HN.out.setAt _ (by omega), R0.other _ _ _ (by omega), R1.other _ _ _ (by omega), ?_⟩
          rw [HB2.out, ← fill_set a k hlt, ← hcel_set _ k _ (by simp; omega)]
          exact R2.set k _
        case measure => simp [intOf]; omega
      · have hq2 : (k : Int) / 8 = 2 := hq
        clear hq
        go_wp2
        go_roundw
        case rel =>
          refine ⟨k + 1, by omega, by go_num, HN.out.setAt _ (by omega), R0.other _ _ _ (by omega), R1.other _ _ _ (by omega), ?_⟩
          rw [HB2.out, ← fill_set a k hlt, ← hcel_set _ k _ (by simp; omega)]
          exact R2.set k _
        case measure => simp [intOf]; omega
      · have hq2 : (k : Int) / 8 = 3 := hq
        clear hq
        go_wp2
        go_roundw
        case rel =>
          refine ⟨k + 1, by omega, by go_num, HN.out.setAt _ (by omega), R0.other _ _ _ (by omega), R1.other _ _ _ (by omega), ?_⟩
          rw [HB2.out, ← fill_set a k hlt, ← hcel_set _ k _ (by simp; omega)]
          exact R2.set k _
        case measure => simp [intOf]; omega
    · obtain rfl : k = 32 := by omega
      have R2' : Row wr (w.heap.size + 1 + 1) (hcel (low a 32)) 26 := by
        have := R2
        simp only [Nat.sub_self, List.replicate_zero, List.append_nil] at this
        exact this
      have hsz : (Try.prog.info? 26).map (·.size) = some (hcel (low a 32)).size := by rw [hcel_size, low_length]; exact info_hash
      have hsz := Lib.hid hsz
      have ho : (hcel (List.replicate 32 0)).size = (hcel (low a 32)).size := by rw [hcel_size, hcel_size, low_length]; simp
      have ho := Lib.hid ho
      have R1' := R1
      have hl : w.heap.size ≤ w.heap.size + 1 := by omega
      go_wp2_with (first | (refine wpList_load_row rfl 26 (.tmp 3) rfl (w.heap.size + 1 + 1) rfl 26 (hcel (low a 32)) (0, 0) _ R2' Try.underlying26 rfl hsz.out ?_) | (refine wpList_store_row rfl 26 (.tmp 2) (.tmp 20) rfl (w.heap.size + 1) (hcel (low a 32)) rfl rfl 26 (hcel (List.replicate 32 0)) R1' hsz.out ho.out (hcel_one _) ?_))
      exact bodyPost_ret (results_cell_row Try.results19 _ _ (w.heap.size + 1) 26 (hcel (low a 32)) (0, 0) _ rfl (R1'.setRow _) Try.underlying26 rfl hsz.out) rfl ⟨rfl, HN.out.setRow _ hl⟩
end Go.Proofs.Ytggemncdnclhnaa
