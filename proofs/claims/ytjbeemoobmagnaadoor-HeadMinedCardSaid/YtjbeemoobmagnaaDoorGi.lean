/- TEXTS OF OUR OWN, IN ONE FILE. -/
import Derived.Test.YtjbeemoobmagnaaDoorGa
import Derived.Test.YtjbeemoobmagnaaDoorGb
import Derived.StillTailTactics
import Derived.Laws.Rows
import Derived.Laws.Tables
import Derived.Test.YtjbeemoobmagnaaDoorGh
import Derived.LoopTactic
section
namespace Go.Proofs.YtjbeemoobmagnaaDoor
open Go.RowKit
set_option linter.unusedVariables false
set_option linter.unusedSimpArgs false
set_option maxRecDepth 20000

theorem info_hash : (Tryd.prog.info? 30).map (·.size) = some 32 := by kernel_rfl

theorem lim_nought' : lim 0 0 = 0 ∧ lim 0 1 = 0 ∧ lim 0 2 = 0 ∧ lim 0 3 = 0 := by decide
set_option maxHeartbeats 2000000 in
theorem ofHash_any (h : List UInt8) (w : World) (hh : h.length = 32) :
    Calls Tryd.prog 85 #[.agg (hcel h)] w fun e w' => e = .returned (.agg #[.int .u64 (lim (num h) 0 : Int), .int .u64 (lim (num h) 1 : Int), .int .u64 (lim (num h) 2 : Int), .int .u64 (lim (num h) 3 : Int)]) ∧ Nx w w' := by
  have HI := Lib.hid (fun i (hi : i < h.length) w => run_index_bytes (P := Tryd.prog) 30 5 32 Tryd.underlying30 Tryd.isAgg5 Tryd.sizeOf5 h hh i hi w)
  have HL := Lib.hid hh
  have hsz : (Tryd.prog.info? 30).map (·.size) = some (hcel h).size := by rw [hcel_size, hh]; exact info_hash
  replace hsz := Lib.hid hsz
  clear hh
  go_enter Tryd.func85, Tryd.ntmps85
  go_wp2_with (refine wpList_load_row rfl 30 (.tmp 1) rfl w.heap.size rfl 30 (hcel h) (0, 0) _ (((Row.new w (hcel h) 30 _ rfl).alloc _).alloc _) Tryd.underlying30 rfl hsz.out ?_)
  go_loopw [7] (fun i wr => ∃ k : Nat, k ≤ 32 ∧ i = .int .i64 k ∧ Hid (Nx w wr) ∧ Row wr (w.heap.size + 1) #[.int .u64 0, .int .u64 0, .int .u64 0, .int .u64 0] 81 ∧ Row wr (w.heap.size + 1 + 1) #[.int .u64 (lim (num (h.take k)) 0 : Int), .int .u64 (lim (num (h.take k)) 1 : Int), .int .u64 (lim (num (h.take k)) 2 : Int), .int .u64 (lim (num (h.take k)) 3 : Int)] 81) (fun i _ => 32 - (intOf i).toNat)
  case atStart =>
    refine ⟨0, by omega, rfl, (((Nx.refl w).alloc _).alloc _).alloc _, (Row.new2 _ _ _ _).alloc _, ?_⟩
    obtain ⟨z0, z1, z2, z3⟩ := lim_nought'
    rw [show num (List.take 0 h) = 0 from rfl, z0, z1, z2, z3]
    exact Row.new3 _ _ _ _ _
  case round =>
    obtain ⟨k, hk, rfl, HN, R1, R2⟩ := hrel
    by_cases hlt : k < 32
    · have hkl : k < h.length := by have := HL.out; omega
      have hidx := HI.out k hkl
      have HS := Lib.hid (num_take h k hkl)
      have HT := Lib.hid (num_take_lt h k (by omega))
      have HX : Hid ((h[k]).toNat < 256) := show _ < _ by have := (h[k]).toNat_lt; omega
      generalize h[k] = x at *
      generalize num (h.take k) = t at *
      obtain ⟨q, hq⟩ : ∃ q : Nat, (k : Int) / 8 = (q : Int) := ⟨k / 8, by omega⟩
      obtain ⟨r, hr⟩ : ∃ r : Nat, (k : Int) % 8 = (r : Int) := ⟨k % 8, by omega⟩
      obtain ⟨p, hp⟩ : ∃ p : Nat, (r : Int) * 8 = (p : Int) := ⟨r * 8, by omega⟩
      have HQ : Hid (q < 4) := show _ < _ by omega
      have HQP : Hid (8 * k = 64 * q + p) := show _ = _ by omega
      have HP : Hid (p ≤ 56) := show _ ≤ _ by omega
      have HB2 := Lib.hid (set_digit t x.toNat (8 * k) q p HQ.out HQP.out HX.out HP.out HT.out)
      have hp0 : (0 : Int) ≤ (p : Int) := by omega
      have hp1 : (p : Int) ≤ 64 := by omega
      have hk0 : (0 : Int) ≤ (k : Int) := by omega
      have hw0 : IntKind.i64.wrap (0 : Int) = 0 := by decide
      have hw1 : IntKind.i64.wrap (1 : Int) = 1 := by decide
      have hw2 : IntKind.i64.wrap (2 : Int) = 2 := by decide
      have hw3 : IntKind.i64.wrap (3 : Int) = 3 := by decide
      have hwx : IntKind.u64.wrap (x.toNat : Int) = (x.toNat : Int) := by rw [IntKind.wrap_u64]; have := x.toNat_lt; omega
      have hwr : IntKind.i64.wrap (r : Int) = (r : Int) := IntWalk.i64_in _ (by omega)
      have hwp : IntKind.i64.wrap (p : Int) = (p : Int) := IntWalk.i64_in _ (by omega)
      have hrt : (k : Int).tmod 8 = (r : Int) := by rw [Int.tmod_eq_emod_of_nonneg hk0]; exact hr
      obtain ⟨t0, t1, t2, t3⟩ := R2.four
      have ft := R2.frozen
      have hq' : q = 0 ∨ q = 1 ∨ q = 2 ∨ q = 3 := by have := HQ.out; omega
      clear HI
      rcases hq' with rfl | rfl | rfl | rfl
      · have hq2 : (k : Int) / 8 = 0 := hq
        clear hq
        go_wp2
        go_still_tail 12, (by kernel_rfl)
        change wpList _ _ _ _ _ wr.drew
        go_wp2
        go_roundw
        case rel =>
          refine ⟨k + 1, by omega, by go_num, (HN.out.drew.setAt _ (by omega)), R1.drew.other _ _ _ (by omega), ?_⟩
          rw [HS.out, ← HB2.out]
          exact R2.drew.set 0 _
        case measure => simp [intOf]; omega
      · have hq2 : (k : Int) / 8 = 1 := hq
        clear hq
        go_wp2
        go_still_tail 12, (by kernel_rfl)
        change wpList _ _ _ _ _ wr.drew
        go_wp2
        go_roundw
        case rel =>
          refine ⟨k + 1, by omega, by go_num, (HN.out.drew.setAt _ (by omega)), R1.drew.other _ _ _ (by omega), ?_⟩
          rw [HS.out, ← HB2.out]
          exact R2.drew.set 1 _
        case measure => simp [intOf]; omega
      · have hq2 : (k : Int) / 8 = 2 := hq
        clear hq
        go_wp2
        go_still_tail 12, (by kernel_rfl)
        change wpList _ _ _ _ _ wr.drew
        go_wp2
        go_roundw
        case rel =>
          refine ⟨k + 1, by omega, by go_num, (HN.out.drew.setAt _ (by omega)), R1.drew.other _ _ _ (by omega), ?_⟩
          rw [HS.out, ← HB2.out]
          exact R2.drew.set 2 _
        case measure => simp [intOf]; omega
      · have hq2 : (k : Int) / 8 = 3 := hq
        clear hq
        go_wp2
        go_still_tail 12, (by kernel_rfl)
        change wpList _ _ _ _ _ wr.drew
        go_wp2
        go_roundw
        case rel =>
          refine ⟨k + 1, by omega, by go_num, (HN.out.drew.setAt _ (by omega)), R1.drew.other _ _ _ (by omega), ?_⟩
          rw [HS.out, ← HB2.out]
          exact R2.drew.set 3 _
        case measure => simp [intOf]; omega
    · obtain rfl : k = 32 := by omega
      have HE : Hid (h.take 32 = h) := show _ = _ from List.take_of_length_le (by rw [HL.out]; omega)
      rw [HE.out] at R2
      clear HI hsz
      obtain ⟨t0, t1, t2, t3⟩ := R2.four
      obtain ⟨z0, z1, z2, z3⟩ := R1.zero4
      have f1 := R1.frozen
      go_wp2
      exact bodyPost_ret (v := .agg #[.int .u64 (lim (num h) 0 : Int), .int .u64 (lim (num h) 1 : Int), .int .u64 (lim (num h) 2 : Int), .int .u64 (lim (num h) 3 : Int)]) (by simp [results, Tryd.results85, go_sem, t0, t1, t2, t3, z0, z1, z2, z3, f1]) rfl
        ⟨rfl, by repeat (first | with_reducible exact HN.out | with_reducible apply Nx.drew | with_reducible refine Nx.setAt ?_ _ (by omega))⟩

theorem fill_set (a k : Nat) (hk : k < 32) : (low a k ++ List.replicate (32 - k) (0 : UInt8)).set k (UInt8.ofNat (a / 256 ^ k)) = low a (k + 1) ++ List.replicate (32 - (k + 1)) 0 := by
  rw [low_snoc, show 32 - k = (32 - (k + 1)) + 1 by omega, List.replicate_succ, List.append_assoc]
  have := List.set_append_right k (UInt8.ofNat (a / 256 ^ k)) (s := low a k) (t := 0 :: List.replicate (32 - (k + 1)) 0) (by simp)
  rw [this]
  simp
end Go.Proofs.YtjbeemoobmagnaaDoor
end

section
namespace Go.Proofs.YtjbeemoobmagnaaDoor
open Go.RowKit
set_option linter.unusedVariables false
set_option linter.unusedSimpArgs false
set_option maxRecDepth 20000

theorem refOf_any (n : Nat) (w : World) (h : (n : Int) ≤ 18446744073709551615) :
    Calls Tryd.prog 94 #[.int .u64 (n : Int)] w fun e w' => e = .returned (.agg #[.int .u64 (lim n 0 : Int), .int .u64 (lim n 1 : Int), .int .u64 (lim n 2 : Int), .int .u64 (lim n 3 : Int)]) ∧ Nx w w' := by
  obtain ⟨e0, e1, e2, e3⟩ := lim_small h
  rw [e0, e1, e2, e3]
  clear e0 e1 e2 e3
  go_enter Tryd.func94, Tryd.ntmps94
  go_wp2
  exact bodyPost_ret (v := .agg #[.int .u64 (n : Int), .int .u64 0, .int .u64 0, .int .u64 0]) (by simp [results, Tryd.results94, go_sem]) rfl ⟨rfl, by repeat (first | exact Nx.refl _ | apply Nx.drewN | apply Nx.alloc | refine Nx.setAt ?_ _ (by omega))⟩

/-- Bytes of the number, laid from above: k bytes to go. -/
def numK8 (a k : Nat) : Nat → Nat := fun q => if 8 * (q + 1) ≤ k then 0 else lim a q / 2 ^ (8 * k - 64 * q)
def ncel8 (a k : Nat) : Array Value := #[.int .u64 (numK8 a k 0 : Int), .int .u64 (numK8 a k 1 : Int), .int .u64 (numK8 a k 2 : Int), .int .u64 (numK8 a k 3 : Int)]
theorem numK8_lt (a k q : Nat) : numK8 a k q < 18446744073709551616 := by
  unfold numK8
  have := lim_lt a q
  split
  · decide
  · exact Nat.lt_of_le_of_lt (Nat.div_le_self _ _) this
theorem numK8_other (a j q i : Nat) (h : j / 8 = q) (hi : i ≠ q) : numK8 a j i = numK8 a (j + 1) i := by
  unfold numK8
  by_cases h1 : 8 * (i + 1) ≤ j
  · rw [if_pos h1, if_pos (by omega)]
  · rw [if_neg h1, if_neg (by omega), show 8 * j - 64 * i = 8 * (j + 1) - 64 * i by omega]
theorem numK8_here (a j q : Nat) (h : j / 8 = q) : numK8 a j q = 256 * numK8 a (j + 1) q + (UInt8.ofNat (a / 256 ^ j)).toNat := by
  have hb := low_byte a j q (8 * j - 64 * q) (by omega) (by omega)
  rw [div_pow] at hb
  have e1 : numK8 a j q = lim a q / 2 ^ (8 * j - 64 * q) := by unfold numK8; rw [if_neg (by omega)]
  have e2 : numK8 a (j + 1) q = lim a q / 2 ^ (8 * j - 64 * q) / 256 := by
    unfold numK8
    rw [Nat.div_div_eq_div_mul, show (2 : Nat) ^ (8 * j - 64 * q) * 256 = 2 ^ (8 * j - 64 * q + 8) by rw [Nat.pow_add]]
    by_cases h7 : 8 * (q + 1) ≤ j + 1
    · rw [if_pos h7, Nat.div_eq_of_lt]
      have := lim_lt a q
      rw [show 8 * j - 64 * q + 8 = 64 by omega]
      exact this
    · rw [if_neg h7, show 8 * (j + 1) - 64 * q = 8 * j - 64 * q + 8 by omega]
  rw [e1, e2]
  generalize lim a q / 2 ^ (8 * j - 64 * q) = y at *
  omega
theorem ncel8_set (a j q : Nat) (hq : q < 4) (h : j / 8 = q) : (ncel8 a (j + 1)).setIfInBounds q (.int .u64 (numK8 a j q : Int)) = ncel8 a j := by
  unfold ncel8
  have O := numK8_other a j q
  have hq' : q = 0 ∨ q = 1 ∨ q = 2 ∨ q = 3 := by omega
  rcases hq' with rfl | rfl | rfl | rfl
  · rw [O 1 h (by omega), O 2 h (by omega), O 3 h (by omega)]; rfl
  · rw [O 0 h (by omega), O 2 h (by omega), O 3 h (by omega)]; rfl
  · rw [O 0 h (by omega), O 1 h (by omega), O 3 h (by omega)]; rfl
  · rw [O 0 h (by omega), O 1 h (by omega), O 2 h (by omega)]; rfl
theorem ncel8_top (a : Nat) : ncel8 a 32 = #[.int .u64 0, .int .u64 0, .int .u64 0, .int .u64 0] := rfl
theorem ncel8_zero (a : Nat) : ncel8 a 0 = #[.int .u64 (lim a 0 : Int), .int .u64 (lim a 1 : Int), .int .u64 (lim a 2 : Int), .int .u64 (lim a 3 : Int)] := by
  unfold ncel8 numK8
  simp
theorem low_take (n m k : Nat) (h : k ≤ m) : (low n m).take k = low n k := by
  induction m with
  | zero => simp [show k = 0 by omega, low]
  | succ m ih =>
    by_cases hk : k = m + 1
    · subst hk; rw [List.take_of_length_le (by simp)]
    · rw [low_snoc, List.take_append_of_le_length (by simp; omega), ih (by omega)]
theorem byte_of (h : List UInt8) (j : Nat) (hj : j < h.length) : UInt8.ofNat (num h / 256 ^ j) = h[j] := by
  have e := low_num h
  have e2 : (low (num h) h.length)[j]? = h[j]? := by rw [e]
  have hs : low (num h) h.length = (low (num h) (j + 1)) ++ (low (num h) h.length).drop (j + 1) := by
    have ht : (low (num h) h.length).take (j + 1) = low (num h) (j + 1) := low_take _ _ _ (by omega)
    rw [← ht, List.take_append_drop]
  rw [hs, low_snoc, List.append_assoc, List.getElem?_append_right (by simp), low_length, Nat.sub_self] at e2
  simp [hj] at e2
  exact e2

set_option maxHeartbeats 2000000 in
theorem refOfHash_any (h : List UInt8) (w : World) (hh : h.length = 32) :
    Calls Tryd.prog 87 #[.agg (hcel h)] w fun e w' => e = .returned (.agg #[.int .u64 (lim (num h) 0 : Int), .int .u64 (lim (num h) 1 : Int), .int .u64 (lim (num h) 2 : Int), .int .u64 (lim (num h) 3 : Int)]) ∧ Nx w w' := by
  have HL := Lib.hid hh
  have HBY := Lib.hid (fun j hj => byte_of h j hj)
  clear hh
  generalize num h = a at *
  go_enter Tryd.func87, Tryd.ntmps87
  go_wp2
  go_loopw [4] (fun i wr => ∃ k : Nat, k ≤ 32 ∧ i = .int .i64 ((k : Int) - 1) ∧ Hid (Nx w wr) ∧ Row wr w.heap.size (hcel h) 30 ∧ Row wr (w.heap.size + 1) #[.int .u64 0, .int .u64 0, .int .u64 0, .int .u64 0] 81 ∧ Row wr (w.heap.size + 1 + 1) (ncel8 a k) 81) (fun i _ => (intOf i + 1).toNat)
  case atStart =>
    refine ⟨32, by omega, rfl, (((Nx.refl w).alloc _).alloc _).alloc _, ((Row.new _ _ _ _ rfl).alloc _).alloc _, (Row.new2 _ _ _ _).alloc _, ?_⟩
    rw [ncel8_top]
    exact Row.new3 _ _ _ _ _
  case round =>
    obtain ⟨k, hk, rfl, HN, R0, R1, R2⟩ := hrel
    by_cases hk0 : k = 0
    · subst hk0
      rw [ncel8_zero] at R2
      obtain ⟨t0, t1, t2, t3⟩ := R2.four
      obtain ⟨z0, z1, z2, z3⟩ := R1.zero4
      have f1 := R1.frozen
      go_wp2
      exact bodyPost_ret (v := .agg #[.int .u64 (lim a 0 : Int), .int .u64 (lim a 1 : Int), .int .u64 (lim a 2 : Int), .int .u64 (lim a 3 : Int)]) (by simp [results, Tryd.results87, go_sem, t0, t1, t2, t3, z0, z1, z2, z3, f1]) rfl
        ⟨rfl, by repeat (first | with_reducible exact HN.out | with_reducible apply Nx.drew | with_reducible refine Nx.setAt ?_ _ (by omega))⟩
    · obtain ⟨j, rfl⟩ : ∃ j, k = j + 1 := ⟨k - 1, by omega⟩
      have ej : (((j + 1 : Nat) : Int) - 1) = (j : Int) := by omega
      rw [ej]
      clear ej
      have hjl : j < h.length := by rw [HL.out]; omega
      obtain ⟨q, hq⟩ : ∃ q : Nat, (j : Int) / 8 = (q : Int) := ⟨j / 8, by omega⟩
      have HQ : Hid (q < 4) := show _ < _ by omega
      have HJQ : Hid (j / 8 = q) := show _ = _ by omega
      have hj0 : (0 : Int) ≤ (j : Int) := by omega
      have hj1 : (j : Int) < 32 := by omega
      have HH := Lib.hid (numK8_here a j q HJQ.out)
      have hlt := numK8_lt a j q
      have HC := Lib.hid (ncel8_set a j q HQ.out HJQ.out)
      have cb : wr.cell? ⟨w.heap.size, j, none⟩ = some (.int .u8 ((h[j]).toNat : Int)) := R0.cell (hcel_get h j hjl)
      have hw5 : IntKind.u64.wrap ((h[j]).toNat : Int) = ((h[j]).toNat : Int) := by rw [IntKind.wrap_u64]; have := (h[j]).toNat_lt; omega
      replace HH := Lib.hid (show numK8 a j q = 256 * numK8 a (j + 1) q + (h[j]).toNat by rw [HH.out, HBY.out j hjl])
      rw [HH.out] at hlt HC
      clear HBY HL
      generalize h[j] = x at *
      have hx0 : (0 : Int) ≤ (x.toNat : Int) := by omega
      have hx1 : (x.toNat : Int) ≤ 255 := by have := x.toNat_lt; omega
      have f2 := R2.frozen
      have hv0 : IntKind.i64.wrap (0 : Int) = 0 := by decide
      have hv1 : IntKind.i64.wrap (1 : Int) = 1 := by decide
      have hv2 : IntKind.i64.wrap (2 : Int) = 2 := by decide
      have hv3 : IntKind.i64.wrap (3 : Int) = 3 := by decide
      have hq' : q = 0 ∨ q = 1 ∨ q = 2 ∨ q = 3 := by have := HQ.out; omega
      rcases hq' with rfl | rfl | rfl | rfl
      · have cn : wr.cell? ⟨w.heap.size + 1 + 1, 0, none⟩ = some (.int .u64 (numK8 a (j + 1) 0 : Int)) := R2.cell rfl
        have hq2 : (j : Int) / 8 = 0 := hq
        clear hq
        generalize hy : numK8 a (j + 1) 0 = y at *
        clear hy
        have hw2 : IntKind.u64.wrap (256 * (y : Int)) = 256 * (y : Int) := by rw [IntKind.wrap_u64]; omega
        have hw3 : IntKind.u64.wrap (256 * (y : Int) + (x.toNat : Int)) = 256 * (y : Int) + (x.toNat : Int) := by rw [IntKind.wrap_u64]; omega
        replace hlt := Lib.hid hlt
        have HV : Hid ((((256 * y + x.toNat : Nat)) : Int) = 256 * (y : Int) + (x.toNat : Int)) := show _ = _ by omega
        go_wp2
        go_still_tail 13, (by kernel_rfl)
        change wpList _ _ _ _ _ wr.drew
        go_wp2
        go_roundw
        case rel =>
          refine ⟨j, by omega, rfl, HN.out.drew.setAt _ (by omega), R0.drew.other _ _ _ (by omega), R1.drew.other _ _ _ (by omega), ?_⟩
          rw [← HC.out, HV.out]
          exact R2.drew.set 0 _
        case measure => simp [intOf]
      · have cn : wr.cell? ⟨w.heap.size + 1 + 1, 1, none⟩ = some (.int .u64 (numK8 a (j + 1) 1 : Int)) := R2.cell rfl
        have hq2 : (j : Int) / 8 = 1 := hq
        clear hq
        generalize hy : numK8 a (j + 1) 1 = y at *
        clear hy
        have hw2 : IntKind.u64.wrap (256 * (y : Int)) = 256 * (y : Int) := by rw [IntKind.wrap_u64]; omega
        have hw3 : IntKind.u64.wrap (256 * (y : Int) + (x.toNat : Int)) = 256 * (y : Int) + (x.toNat : Int) := by rw [IntKind.wrap_u64]; omega
        replace hlt := Lib.hid hlt
        have HV : Hid ((((256 * y + x.toNat : Nat)) : Int) = 256 * (y : Int) + (x.toNat : Int)) := show _ = _ by omega
        go_wp2
        go_still_tail 13, (by kernel_rfl)
        change wpList _ _ _ _ _ wr.drew
        go_wp2
        go_roundw
        case rel =>
          refine ⟨j, by omega, rfl, HN.out.drew.setAt _ (by omega), R0.drew.other _ _ _ (by omega), R1.drew.other _ _ _ (by omega), ?_⟩
          rw [← HC.out, HV.out]
          exact R2.drew.set 1 _
        case measure => simp [intOf]
      · have cn : wr.cell? ⟨w.heap.size + 1 + 1, 2, none⟩ = some (.int .u64 (numK8 a (j + 1) 2 : Int)) := R2.cell rfl
        have hq2 : (j : Int) / 8 = 2 := hq
        clear hq
        generalize hy : numK8 a (j + 1) 2 = y at *
        clear hy
        have hw2 : IntKind.u64.wrap (256 * (y : Int)) = 256 * (y : Int) := by rw [IntKind.wrap_u64]; omega
        have hw3 : IntKind.u64.wrap (256 * (y : Int) + (x.toNat : Int)) = 256 * (y : Int) + (x.toNat : Int) := by rw [IntKind.wrap_u64]; omega
        replace hlt := Lib.hid hlt
        have HV : Hid ((((256 * y + x.toNat : Nat)) : Int) = 256 * (y : Int) + (x.toNat : Int)) := show _ = _ by omega
        go_wp2
        go_still_tail 13, (by kernel_rfl)
        change wpList _ _ _ _ _ wr.drew
        go_wp2
        go_roundw
        case rel =>
          refine ⟨j, by omega, rfl, HN.out.drew.setAt _ (by omega), R0.drew.other _ _ _ (by omega), R1.drew.other _ _ _ (by omega), ?_⟩
          rw [← HC.out, HV.out]
          exact R2.drew.set 2 _
        case measure => simp [intOf]
      · have cn : wr.cell? ⟨w.heap.size + 1 + 1, 3, none⟩ = some (.int .u64 (numK8 a (j + 1) 3 : Int)) := R2.cell rfl
        have hq2 : (j : Int) / 8 = 3 := hq
        clear hq
        generalize hy : numK8 a (j + 1) 3 = y at *
        clear hy
        have hw2 : IntKind.u64.wrap (256 * (y : Int)) = 256 * (y : Int) := by rw [IntKind.wrap_u64]; omega
        have hw3 : IntKind.u64.wrap (256 * (y : Int) + (x.toNat : Int)) = 256 * (y : Int) + (x.toNat : Int) := by rw [IntKind.wrap_u64]; omega
        replace hlt := Lib.hid hlt
        have HV : Hid ((((256 * y + x.toNat : Nat)) : Int) = 256 * (y : Int) + (x.toNat : Int)) := show _ = _ by omega
        go_wp2
        go_still_tail 13, (by kernel_rfl)
        change wpList _ _ _ _ _ wr.drew
        go_wp2
        go_roundw
        case rel =>
          refine ⟨j, by omega, rfl, HN.out.drew.setAt _ (by omega), R0.drew.other _ _ _ (by omega), R1.drew.other _ _ _ (by omega), ?_⟩
          rw [← HC.out, HV.out]
          exact R2.drew.set 3 _
        case measure => simp [intOf]
end Go.Proofs.YtjbeemoobmagnaaDoor
end

section
namespace Go.Proofs.YtjbeemoobmagnaaDoor
open Go.RowKit
set_option linter.unusedVariables false
set_option linter.unusedSimpArgs false

/-- The limbs of which k bytes have been taken off. -/
def shK (a k q : Nat) : Nat := lim a q / 2 ^ (8 * k - 64 * q)
def scel (a k : Nat) : Array Value := #[.int .u64 (shK a k 0 : Int), .int .u64 (shK a k 1 : Int), .int .u64 (shK a k 2 : Int), .int .u64 (shK a k 3 : Int)]
theorem shK_lt (a k q : Nat) : shK a k q < 18446744073709551616 := Nat.lt_of_le_of_lt (Nat.div_le_self _ _) (lim_lt a q)
theorem shK_gone (a k q : Nat) (h : 64 * (q + 1) ≤ 8 * k) : shK a k q = 0 := by
  unfold shK
  refine Nat.div_eq_of_lt (Nat.lt_of_lt_of_le (lim_lt a q) ?_)
  rw [show (18446744073709551616 : Nat) = 2 ^ 64 by decide +kernel]
  exact Nat.pow_le_pow_right (by decide) (by omega)
theorem shK_other (a k q i : Nat) (h : k / 8 = q) (hi : i ≠ q) : shK a (k + 1) i = shK a k i := by
  rcases Nat.lt_or_ge i q with hl | hl
  · rw [shK_gone _ _ _ (by omega), shK_gone _ _ _ (by omega)]
  · unfold shK
    rw [show 8 * (k + 1) - 64 * i = 0 by omega, show 8 * k - 64 * i = 0 by omega]
theorem shK_here (a k q : Nat) (h : k / 8 = q) : shK a (k + 1) q = shK a k q / 256 := by
  unfold shK
  rw [Nat.div_div_eq_div_mul, show (2 : Nat) ^ (8 * k - 64 * q) * 256 = 2 ^ (8 * k - 64 * q + 8) by rw [Nat.pow_add], show 8 * (k + 1) - 64 * q = 8 * k - 64 * q + 8 by omega]
theorem shK_byte (a k q : Nat) (h : k / 8 = q) : (shK a k q : Int) % 256 = ((UInt8.ofNat (a / 256 ^ k)).toNat : Int) := by
  have hb := low_byte a k q (8 * k - 64 * q) (by omega) (by omega)
  rw [div_pow] at hb
  exact hb
theorem scel_set (a k q : Nat) (hq : q < 4) (h : k / 8 = q) : (scel a k).setIfInBounds q (.int .u64 (shK a (k + 1) q : Int)) = scel a (k + 1) := by
  unfold scel
  have O := shK_other a k q
  have hq' : q = 0 ∨ q = 1 ∨ q = 2 ∨ q = 3 := by omega
  rcases hq' with rfl | rfl | rfl | rfl
  · rw [O 1 h (by omega), O 2 h (by omega), O 3 h (by omega)]; rfl
  · rw [O 0 h (by omega), O 2 h (by omega), O 3 h (by omega)]; rfl
  · rw [O 0 h (by omega), O 1 h (by omega), O 3 h (by omega)]; rfl
  · rw [O 0 h (by omega), O 1 h (by omega), O 2 h (by omega)]; rfl
theorem scel_zero (a : Nat) : scel a 0 = #[.int .u64 (lim a 0 : Int), .int .u64 (lim a 1 : Int), .int .u64 (lim a 2 : Int), .int .u64 (lim a 3 : Int)] := by
  unfold scel shK
  simp

set_option maxHeartbeats 2000000 in
theorem refToHash_any (a : Nat) (w : World) :
    Calls Tryd.prog 105 #[.agg #[.int .u64 (lim a 0 : Int), .int .u64 (lim a 1 : Int), .int .u64 (lim a 2 : Int), .int .u64 (lim a 3 : Int)]] w fun e w' => e = .returned (.agg (hcel (low a 32))) ∧ Nx w w' := by
  go_enter Tryd.func105, Tryd.ntmps105
  go_wp2
  go_loopw [4] (fun i wr => ∃ k : Nat, k ≤ 32 ∧ i = .int .i64 k ∧ Hid (Nx w wr) ∧ Row wr w.heap.size (scel a k) 81 ∧ Row wr (w.heap.size + 1) (hcel (List.replicate 32 0)) 30 ∧ Row wr (w.heap.size + 1 + 1) (hcel (low a k ++ List.replicate (32 - k) 0)) 30) (fun i _ => 32 - (intOf i).toNat)
  case atStart =>
    refine ⟨0, by omega, rfl, (((Nx.refl w).alloc _).alloc _).alloc _, ?_, (Row.new2 _ _ _ _).alloc _, Row.new3 _ _ _ _ _⟩
    rw [scel_zero]
    exact ((Row.new _ _ _ _ rfl).alloc _).alloc _
  case round =>
    obtain ⟨k, hk, rfl, HN, R0, R1, R2⟩ := hrel
    by_cases hlt : k < 32
    · obtain ⟨q, hq⟩ : ∃ q : Nat, (k : Int) / 8 = (q : Int) := ⟨k / 8, by omega⟩
      have HQ : Hid (q < 4) := show _ < _ by omega
      have HJQ : Hid (k / 8 = q) := show _ = _ by omega
      have hb := shK_byte a k q HJQ.out
      have HC := Lib.hid (scel_set a k q HQ.out HJQ.out)
      have HH := Lib.hid (shK_here a k q HJQ.out)
      have HF := Lib.hid (fill_set a k hlt)
      have hk0 : (0 : Int) ≤ (k : Int) := by omega
      have hki : (k : Int) < 32 := by omega
      have cq : wr.cell? ⟨w.heap.size, q, none⟩ = some (.int .u64 (shK a k q : Int)) := by
        have hq' : q = 0 ∨ q = 1 ∨ q = 2 ∨ q = 3 := by have := HQ.out; omega
        rcases hq' with rfl | rfl | rfl | rfl <;> exact R0.cell rfl
      have f0 := R0.frozen
      obtain ⟨v2, c2⟩ : ∃ v, wr.cell? ⟨w.heap.size + 1 + 1, k, none⟩ = some v := ⟨_, R2.cell (hcel_get _ k (by simp; omega))⟩
      have f2 := R2.frozen
      have hyl : (shK a k q : Int) ≤ 18446744073709551615 := by have := shK_lt a k q; omega
      rw [HH.out] at HC
      generalize shK a k q = y at *
      generalize UInt8.ofNat (a / 256 ^ k) = x at *
      have hwb : IntKind.u8.wrap (x.toNat : Int) = (x.toNat : Int) := by have := x.toNat_lt; rw [IntKind.wrap_u8]; omega
      have HY : Hid (((y / 256 : Nat) : Int) = (y : Int) / 256) := show _ = _ by omega
      have hv0 : IntKind.i64.wrap (0 : Int) = 0 := by decide
      have hq' : q = 0 ∨ q = 1 ∨ q = 2 ∨ q = 3 := by have := HQ.out; omega
      rcases hq' with rfl | rfl | rfl | rfl
      · have hq2 : (k : Int) / 8 = 0 := hq
        clear hq
        go_wp2
        go_roundw
        case rel =>
          refine ⟨k + 1, by omega, by go_num, (HN.out.setAt _ (by omega)).setAt _ (by omega), ?_, (R1.other _ _ _ (by omega)).other _ _ _ (by omega), ?_⟩
          · rw [← HC.out, HY.out]
            exact (R0.other _ _ _ (by omega)).set 0 _
          · rw [← HF.out, ← hcel_set _ k _ (by simp; omega)]
            exact (R2.set k _).other _ _ _ (by omega)
        case measure => simp [intOf]; omega
      · have hq2 : (k : Int) / 8 = 1 := hq
        clear hq
        go_wp2
        go_roundw
        case rel =>
          refine ⟨k + 1, by omega, by go_num, (HN.out.setAt _ (by omega)).setAt _ (by omega), ?_, (R1.other _ _ _ (by omega)).other _ _ _ (by omega), ?_⟩
          · rw [← HC.out, HY.out]
            exact (R0.other _ _ _ (by omega)).set 1 _
          · rw [← HF.out, ← hcel_set _ k _ (by simp; omega)]
            exact (R2.set k _).other _ _ _ (by omega)
        case measure => simp [intOf]; omega
      · have hq2 : (k : Int) / 8 = 2 := hq
        clear hq
        go_wp2
        go_roundw
        case rel =>
          refine ⟨k + 1, by omega, by go_num, (HN.out.setAt _ (by omega)).setAt _ (by omega), ?_, (R1.other _ _ _ (by omega)).other _ _ _ (by omega), ?_⟩
          · rw [← HC.out, HY.out]
            exact (R0.other _ _ _ (by omega)).set 2 _
          · rw [← HF.out, ← hcel_set _ k _ (by simp; omega)]
            exact (R2.set k _).other _ _ _ (by omega)
        case measure => simp [intOf]; omega
      · have hq2 : (k : Int) / 8 = 3 := hq
        clear hq
        go_wp2
        go_roundw
        case rel =>
          refine ⟨k + 1, by omega, by go_num, (HN.out.setAt _ (by omega)).setAt _ (by omega), ?_, (R1.other _ _ _ (by omega)).other _ _ _ (by omega), ?_⟩
          · rw [← HC.out, HY.out]
            exact (R0.other _ _ _ (by omega)).set 3 _
          · rw [← HF.out, ← hcel_set _ k _ (by simp; omega)]
            exact (R2.set k _).other _ _ _ (by omega)
        case measure => simp [intOf]; omega
    · obtain rfl : k = 32 := by omega
      have R2' : Row wr (w.heap.size + 1 + 1) (hcel (low a 32)) 30 := by
        have := R2
        simp only [Nat.sub_self, List.replicate_zero, List.append_nil] at this
        exact this
      have hsz : (Tryd.prog.info? 30).map (·.size) = some (hcel (low a 32)).size := by rw [hcel_size, low_length]; exact info_hash
      have hsz := Lib.hid hsz
      have ho : (hcel (List.replicate 32 0)).size = (hcel (low a 32)).size := by rw [hcel_size, hcel_size, low_length]; simp
      have ho := Lib.hid ho
      have R1' := R1
      have hl : w.heap.size ≤ w.heap.size + 1 := by omega
      go_wp2_with (first | (refine wpList_load_row rfl 30 (.tmp 3) rfl (w.heap.size + 1 + 1) rfl 30 (hcel (low a 32)) (0, 0) _ R2' Tryd.underlying30 rfl hsz.out ?_) | (refine wpList_store_row rfl 30 (.tmp 2) (.tmp 25) rfl (w.heap.size + 1) (hcel (low a 32)) rfl rfl 30 (hcel (List.replicate 32 0)) R1' hsz.out ho.out (hcel_one _) ?_))
      exact bodyPost_ret (results_cell_row Tryd.results105 _ _ (w.heap.size + 1) 30 (hcel (low a 32)) (0, 0) _ rfl (R1'.setRow _) Tryd.underlying30 rfl hsz.out) rfl ⟨rfl, HN.out.setRow _ hl⟩

/-- One bit more. -/
theorem blen_step (a k : Nat) : blen (a % 2 ^ (k + 1)) = if a.testBit k then k + 1 else blen (a % 2 ^ k) := by
  have hm : a % 2 ^ (k + 1) = a % 2 ^ k + 2 ^ k * (a / 2 ^ k % 2) := by rw [Nat.pow_succ]; exact mod_step _ _ _
  have hb := bit_mod a k
  have hp : 0 < 2 ^ k := Nat.pow_pos (by decide)
  have hlt := Nat.mod_lt a hp
  rw [hm, hb]
  rcases ht : a.testBit k with _ | _
  · simp
  · simp only [Bool.toNat_true, Nat.mul_one, if_true]
    refine blen_of (by omega) (by omega) ?_
    rw [Nat.pow_succ]; omega
end Go.Proofs.YtjbeemoobmagnaaDoor
end

section
namespace Go.Proofs.YtjbeemoobmagnaaDoor
open Go.RowKit
set_option linter.unusedVariables false
set_option linter.unusedSimpArgs false

def z32 : List UInt8 := List.replicate 32 0
theorem z32_length : z32.length = 32 := rfl
theorem info_hash0 : (Tryd.prog.info? 30).map (fun i => (i.zero, i.size)) = some (some (.agg (hcel z32)), 32) := by kernel_rfl
theorem low_byte_at (t k : Nat) (ht : t < top) (hk : k < 32) : (hcel (low t 32))[k]? = some (.int .u8 ((t / 256 ^ k % 256 : Nat) : Int)) := by
  have hl : k < (low t 32).length := by rw [low_length]; exact hk
  rw [hcel_get _ k hl]
  have e := byte_of (low t 32) k hl
  rw [num_low t 32 (by rw [← top256]; exact ht)] at e
  rw [← e, bv, UInt8.toNat_ofNat']

set_option maxHeartbeats 4000000 in
set_option maxRecDepth 100000 in
theorem refTBits_any (t : Nat) (w : World) (ht : t < top) :
    Calls Tryd.prog 95 #[.agg #[.int .u64 (lim t 0 : Int), .int .u64 (lim t 1 : Int), .int .u64 (lim t 2 : Int), .int .u64 (lim t 3 : Int)]] w fun e w' => e = .returned (.int .u32 (bN t : Int)) ∧ Nx w w' := by
  obtain ⟨hz, hs⟩ := zero_of_info info_hash0
  replace hs := Lib.hid hs
  have HB := Lib.hid (fun w => refToHash_any t w)
  have HSZ : Hid ((Tryd.prog.info? 30).map (·.size) = some (hcel (low t 32)).size) := Lib.hid (by rw [hcel_size, low_length]; exact info_hash)
  have HO : Hid ((hcel z32).size = (hcel (low t 32)).size) := Lib.hid (by rw [hcel_size, hcel_size, low_length, z32_length])
  have HG := Lib.hid (fun k (hk : k < 32) => low_byte_at t k ht hk)
  have HS := Lib.hid (szK_all t ht)
  have HSL := Lib.hid (fun k => (szK_spec t k).2.1)
  have HZ : Hid (szK t 0 = 0) := Lib.hid rfl
  have HSTEP := Lib.hid (fun k => show szK t (k + 1) = if t / 256 ^ k % 256 = 0 then szK t k else k + 1 from rfl)
  have HTOP := Lib.hid (bN_top t ht)
  have HSIZE := Lib.hid (size256 t)
  have HNONE : Hid (sizeN t = 0 → bN t = 0) := Lib.hid (fun e => by
    have h := size256 t
    rw [e] at h
    have : t = 0 := by simpa using h
    subst this
    exact bN_zero)
  have HNL := Lib.hid (sizeN_le t ht)
  clear ht
  generalize bN t = B at *
  go_enter Tryd.func95, Tryd.ntmps95
  go_wp2_with fail
  refine (HB.out _).mono ?_
  rintro e w1 ⟨rfl, hb1⟩
  have N1 := Lib.hid (((Nx.refl w).alloc (.cells #[.int .u64 (lim t 0 : Int), .int .u64 (lim t 1 : Int), .int .u64 (lim t 2 : Int), .int .u64 (lim t 3 : Int)] 81)).trans hb1)
  have RT := Row.new w1 (hcel z32) 30 w1.heap.size rfl
  go_wp2_with (first | (refine wpList_store_row rfl 30 (.tmp 3) (.tmp 9) rfl w1.heap.size (hcel (low t 32)) rfl rfl 30 (hcel z32) RT HSZ.out HO.out (hcel_one _) ?_))
  have RX := Lib.hid (RT.setRow (hcel (low t 32)))
  replace N1 := Lib.hid ((N1.out.alloc (.cells (hcel z32) 30)).setRow (g := w1.heap.size) (hcel (low t 32)) N1.out.size)
  clear RT hb1 hz
  go_loop [4, 5] (fun n i => ∃ k : Nat, k ≤ 32 ∧ i = .int .i64 k ∧ n = .int .i64 (szK t k : Int)) (fun _ i => 32 - (intOf i).toNat)
  case atStart => exact ⟨0, by omega, rfl, by rw [HZ.out]; rfl⟩
  case round =>
    obtain ⟨k, hk, rfl, rfl⟩ := hrel
    by_cases hlt : k < 32
    · have hki : (k : Int) < 32 := by omega
      have hk0 : (0 : Int) ≤ (k : Int) := by omega
      have ck := RX.out.cell (HG.out k hlt)
      have HS1 := Lib.hid (HSTEP.out k)
      generalize t / 256 ^ k % 256 = x at *
      generalize szK t k = s at *
      by_cases hx : x = 0
      · subst hx
        clear HTOP HSIZE HNONE HG
        go_wp2
        go_round
        case rel => exact ⟨k + 1, by omega, by go_num, by rw [HS1.out]; rfl⟩
        case measure => simp [intOf]; omega
      · have hx0 : ¬ (x : Int) = 0 := by omega
        clear HTOP HSIZE HNONE HG
        go_wp2
        go_round
        case rel => exact ⟨k + 1, by omega, by go_num, by rw [HS1.out, if_neg hx]; go_num⟩
        case measure => simp [intOf]; omega
    · obtain rfl : k = 32 := by omega
      rw [HS.out]
      clear hlt hk HS HZ HSTEP HSL
      generalize sizeN t = n at *
      by_cases hn : n = 0
      · subst hn
        have hb0 := Lib.hid (HNONE.out rfl)
        clear HTOP HSIZE HNONE HG
        go_wp2
        go_ret
        exact ⟨by rw [hb0.out]; rfl, N1.out⟩
      · have hn0 : ¬ (n : Int) = 0 := by omega
        have hnl := HNL.out
        have hn1 : (1 : Int) ≤ (n : Int) := by omega
        have hn2 : (n : Int) ≤ 32 := by omega
        have HT0 := Lib.hid (tpK_zero t n HSIZE.out)
        have HTI := Lib.hid (fun k => tpK_in t n k)
        have HTO := Lib.hid (fun k => tpK_out t n k)
        have HTL := Lib.hid (fun k => tpK_lt t n k HSIZE.out)
        clear HNONE HSIZE HNL
        go_wp2
        go_loop [6, 7] (fun m i => ∃ k : Nat, k ≤ 3 ∧ i = .int .i64 ((k + 1 : Nat) : Int) ∧ m = .int .u32 (tpK t n k : Int)) (fun _ i => 4 - (intOf i).toNat)
        case atStart => exact ⟨0, by omega, rfl, by rw [HT0.out]; rfl⟩
        case round =>
          obtain ⟨k, hk, rfl, rfl⟩ := hrel
          have hml := HTL.out k
          by_cases hlt : k < 3
          · have hml2 : tpK t n k < 65536 := by
              have hc : k = 0 ∨ k = 1 ∨ k = 2 := by omega
              rcases hc with rfl | rfl | rfl <;> omega
            have HI := Lib.hid (HTI.out k)
            have HU := Lib.hid (HTO.out k)
            have hwm : IntKind.u32.wrap (256 * (tpK t n k : Int)) = 256 * (tpK t n k : Int) := by rw [IntKind.wrap_u32]; omega
            have hki : (k : Int) + 1 ≤ 3 := by omega
            have hki0 : (0 : Int) ≤ (k : Int) := by omega
            generalize tpK t n k = m at *
            by_cases hin : k + 1 ≤ n
            · have ck := RX.out.cell (HG.out (n - (k + 1)) (by omega))
              have HI1 := Lib.hid (HI.out hin)
              have hd0 : (0 : Int) ≤ (n : Int) - ((k : Int) + 1) := by omega
              have hd1 : (n : Int) - ((k : Int) + 1) < 32 := by omega
              have hdt : ((n : Int) - ((k : Int) + 1)).toNat = n - (k + 1) := by omega
              have hxl : t / 256 ^ (n - (k + 1)) % 256 < 256 := Nat.mod_lt _ (by decide)
              generalize t / 256 ^ (n - (k + 1)) % 256 = x at *
              have hwx : IntKind.u32.wrap (x : Int) = (x : Int) := by rw [IntKind.wrap_u32]; omega
              have hws : IntKind.u32.wrap (256 * (m : Int) + (x : Int)) = 256 * (m : Int) + (x : Int) := by rw [IntKind.wrap_u32]; omega
              have HV : Hid (256 * (m : Int) + (x : Int) = ((256 * m + x : Nat) : Int)) := show _ = _ by omega
              clear HTOP HG HTI HTO HTL HI HU HT0 hml hml2 hin hlt
              go_wp2
              go_round
              case rel => exact ⟨k + 1, by omega, by go_num, by rw [HI1.out, HV.out]⟩
              case measure => simp [intOf]; omega
            · have HU1 := Lib.hid (HU.out (by omega))
              have hneg2 : decide ((k : Int) + 1 ≤ (n : Int)) = false := by rw [decide_eq_false_iff_not]; omega
              have hneg3 : (n : Int) < (k : Int) + 1 := by omega
              have hneg : decide ((0 : Int) ≤ (n : Int) - ((k : Int) + 1)) = false := by rw [decide_eq_false_iff_not]; omega
              have hwd : IntKind.i64.wrap ((n : Int) - ((k : Int) + 1)) = (n : Int) - ((k : Int) + 1) := IntWalk.i64_in _ (by omega)
              have HV : Hid (256 * (m : Int) = ((256 * m : Nat) : Int)) := show _ = _ by omega
              clear HTOP HG HTI HTO HTL HI HU HT0 hml hml2 hin hlt
              go_wp2
              go_round
              case rel => exact ⟨k + 1, by omega, by go_num, by rw [HU1.out, HV.out]⟩
              case measure => simp [intOf]; omega
          · obtain rfl : k = 3 := by omega
            have hml2 : tpK t n 3 < 16777216 := by omega
            generalize tpK t n 3 = m at *
            clear HTI HTO HTL HT0 HG RX hml hlt hk
            have hwn : IntKind.u32.wrap (n : Int) = (n : Int) := by rw [IntKind.wrap_u32]; omega
            by_cases hgt : 8388607 < m
            · have hgi : (8388607 : Int) < (m : Int) := by omega
              rw [if_pos hgt] at HTOP
              have hwn1 : IntKind.u32.wrap ((n : Int) + 1) = (n : Int) + 1 := by rw [IntKind.wrap_u32]; omega
              have hwi1 : IntKind.i64.wrap ((n : Int) + 1) = (n : Int) + 1 := IntWalk.i64_in _ (by omega)
              have hwt : IntKind.u32.wrap (16777216 * ((n : Int) + 1)) = 16777216 * ((n : Int) + 1) := by rw [IntKind.wrap_u32]; omega
              have hwq : IntKind.u32.wrap ((m : Int) / 256) = (m : Int) / 256 := by rw [IntKind.wrap_u32]; omega
              have hws : IntKind.u32.wrap (16777216 * ((n : Int) + 1) + (m : Int) / 256) = (B : Int) := by rw [HTOP.out, IntKind.wrap_u32]; omega
              clear hgt hml2 HTOP
              go_wp2
              go_ret
              exact ⟨by first | rfl | rw [hws], N1.out⟩
            · have hgi : decide ((8388607 : Int) < (m : Int)) = false := by rw [decide_eq_false_iff_not]; omega
              rw [if_neg hgt] at HTOP
              have hwt : IntKind.u32.wrap (16777216 * (n : Int)) = 16777216 * (n : Int) := by rw [IntKind.wrap_u32]; omega
              have hws : IntKind.u32.wrap (16777216 * (n : Int) + (m : Int)) = (B : Int) := by rw [HTOP.out, IntKind.wrap_u32]; omega
              clear hgt hml2 HTOP
              go_wp2
              go_ret
              exact ⟨by first | rfl | rw [hws], N1.out⟩
end Go.Proofs.YtjbeemoobmagnaaDoor
end
