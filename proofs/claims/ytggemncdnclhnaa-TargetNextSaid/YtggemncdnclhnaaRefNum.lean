/- THE REFERENCE OF LAYER 3: Number. -/
import Derived.Test.YtggemncdnclhnaaRefBits
namespace Go.Proofs.Ytggemncdnclhnaa
open Go.RowKit
set_option linter.unusedVariables false
set_option linter.unusedSimpArgs false

/-- The number so far, k bits to go: the limbs above are whole, the one that is under way has its higher bits, those below are 0. -/
def numK (a k : Nat) : Nat → Nat := fun q => if k ≤ 64 * q then lim a q else if 64 * (q + 1) ≤ k then 0 else lim a q / 2 ^ (k - 64 * q)
def ncel (a k : Nat) : Array Value := #[.int .u64 (numK a k 0 : Int), .int .u64 (numK a k 1 : Int), .int .u64 (numK a k 2 : Int), .int .u64 (numK a k 3 : Int)]
theorem numK_top (a : Nat) (q : Nat) (hq : q < 4) : numK a 256 q = 0 := by
  unfold numK; rw [if_neg (by omega), if_pos (by omega)]
theorem numK_zero (a q : Nat) : numK a 0 q = lim a q := by unfold numK; rw [if_pos (by omega)]
theorem numK_other (a j q i : Nat) (h : j / 64 = q) (hi : i ≠ q) : numK a j i = numK a (j + 1) i := by
  unfold numK
  by_cases h1 : j + 1 ≤ 64 * i
  · rw [if_pos (by omega), if_pos h1]
  · by_cases h2 : 64 * (i + 1) ≤ j + 1
    · rw [if_neg (by omega), if_pos (by omega), if_neg h1, if_pos h2]
    · omega
theorem numK_here (a j q : Nat) (h : j / 64 = q) : numK a j q = 2 * numK a (j + 1) q + (a.testBit j).toNat := by
  obtain ⟨r, hr⟩ : ∃ r, j = 64 * q + r := ⟨j % 64, by omega⟩
  have hr6 : r < 64 := by omega
  subst hr
  have e1 : numK a (64 * q + r) q = lim a q / 2 ^ r := by
    unfold numK
    by_cases h0 : r = 0
    · subst h0; rw [if_pos (by omega)]; simp
    · rw [if_neg (by omega), if_neg (by omega), Nat.add_sub_cancel_left]
  have e2 : numK a (64 * q + r + 1) q = lim a q / 2 ^ (r + 1) := by
    unfold numK
    rw [if_neg (by omega)]
    by_cases h63 : r = 63
    · subst h63
      rw [if_pos (by omega), Nat.div_eq_of_lt]
      have := lim_lt a q
      exact this
    · rw [if_neg (by omega), show 64 * q + r + 1 - 64 * q = r + 1 by omega]
  have e3 := bit_of_limb a (64 * q + r) q r rfl hr6
  rw [e1, e2, Nat.pow_succ, ← Nat.div_div_eq_div_mul]
  generalize lim a q / 2 ^ r = y at *
  rcases hb : a.testBit (64 * q + r) with _ | _
  · rw [hb] at e3
    simp only [beq_eq_false_iff_ne, ne_eq] at e3
    simp only [Bool.toNat_false]
    omega
  · rw [hb] at e3
    simp only [beq_iff_eq] at e3
    simp only [Bool.toNat_true]
    omega
theorem numK_lt (a k q : Nat) : numK a k q < 18446744073709551616 := by
  unfold numK
  have := lim_lt a q
  split
  · exact this
  · split
    · decide
    · exact Nat.lt_of_le_of_lt (Nat.div_le_self _ _) this
theorem ncel_set (a j q : Nat) (hq : q < 4) (h : j / 64 = q) : (ncel a (j + 1)).setIfInBounds q (.int .u64 (numK a j q : Int)) = ncel a j := by
  unfold ncel
  have O := numK_other a j q
  have hq' : q = 0 ∨ q = 1 ∨ q = 2 ∨ q = 3 := by omega
  rcases hq' with rfl | rfl | rfl | rfl
  · rw [O 1 h (by omega), O 2 h (by omega), O 3 h (by omega)]; rfl
  · rw [O 0 h (by omega), O 2 h (by omega), O 3 h (by omega)]; rfl
  · rw [O 0 h (by omega), O 1 h (by omega), O 3 h (by omega)]; rfl
  · rw [O 0 h (by omega), O 1 h (by omega), O 2 h (by omega)]; rfl
theorem ncel_top (a : Nat) : ncel a 256 = #[.int .u64 0, .int .u64 0, .int .u64 0, .int .u64 0] := by
  unfold ncel
  rw [numK_top a 0 (by omega), numK_top a 1 (by omega), numK_top a 2 (by omega), numK_top a 3 (by omega)]; rfl
theorem ncel_zero (a : Nat) : ncel a 0 = #[.int .u64 (lim a 0 : Int), .int .u64 (lim a 1 : Int), .int .u64 (lim a 2 : Int), .int .u64 (lim a 3 : Int)] := by
  unfold ncel
  rw [numK_zero, numK_zero, numK_zero, numK_zero]

set_option maxHeartbeats 2000000 in
theorem refNumber_any (a : Nat) (w : World) :
    Calls Try.prog 57 #[.agg (bcel (bitsL a))] w fun e w' => e = .returned (.agg #[.int .u64 (lim a 0 : Int), .int .u64 (lim a 1 : Int), .int .u64 (lim a 2 : Int), .int .u64 (lim a 3 : Int)]) ∧ Nx w w' := by
  have hbl := bitsL_length a
  have HG := Lib.hid (fun i (hi : i < (bitsL a).length) => bitsL_get a i hi)
  have HLN := Lib.hid hbl
  generalize bitsL a = l at *
  clear hbl
  go_enter Try.func57, Try.ntmps57
  go_wp2
  go_loopw [4] (fun i wr => ∃ k : Nat, k ≤ 256 ∧ i = .int .i64 ((k : Int) - 1) ∧ Hid (Nx w wr) ∧ Row wr w.heap.size (bcel l) 60 ∧ Row wr (w.heap.size + 1) #[.int .u64 0, .int .u64 0, .int .u64 0, .int .u64 0] 24 ∧ Row wr (w.heap.size + 1 + 1) (ncel a k) 24) (fun i _ => (intOf i + 1).toNat)
  case atStart =>
    refine ⟨256, by omega, rfl, (((Nx.refl w).alloc _).alloc _).alloc _, ((Row.new _ _ _ _ rfl).alloc _).alloc _, (Row.new2 _ _ _ _).alloc _, ?_⟩
    rw [ncel_top]
    exact Row.new3 _ _ _ _ _
  case round =>
    obtain ⟨k, hk, rfl, HN, R0, R1, R2⟩ := hrel
    by_cases hk0 : k = 0
    · subst hk0
      rw [ncel_zero] at R2
      obtain ⟨t0, t1, t2, t3⟩ := R2.four
      obtain ⟨z0, z1, z2, z3⟩ := R1.zero4
      have f1 := R1.frozen
      go_wp2
      exact bodyPost_ret (v := .agg #[.int .u64 (lim a 0 : Int), .int .u64 (lim a 1 : Int), .int .u64 (lim a 2 : Int), .int .u64 (lim a 3 : Int)]) (by simp [results, Try.results57, go_sem, t0, t1, t2, t3, z0, z1, z2, z3, f1]) rfl
        ⟨rfl, by repeat (first | with_reducible exact HN.out | with_reducible apply Nx.drew | with_reducible refine Nx.setAt ?_ _ (by omega))⟩
    · obtain ⟨j, rfl⟩ : ∃ j, k = j + 1 := ⟨k - 1, by omega⟩
      have ej : (((j + 1 : Nat) : Int) - 1) = (j : Int) := by omega
      rw [ej]
      clear ej
      obtain ⟨q, hq⟩ : ∃ q : Nat, (j : Int) / 64 = (q : Int) := ⟨j / 64, by omega⟩
      have HQ : Hid (q < 4) := show _ < _ by omega
      have HJQ : Hid (j / 64 = q) := show _ = _ by omega
      have hj0 : (0 : Int) ≤ (j : Int) := by omega
      have hj1 : (j : Int) < 256 := by omega
      have HH := Lib.hid (numK_here a j q HJQ.out)
      have hlt := numK_lt a j q
      have HC := Lib.hid (ncel_set a j q HQ.out HJQ.out)
      have cb : wr.cell? ⟨w.heap.size, j, none⟩ = some (.bool (a.testBit j)) := by
        have hl : j < l.length := by rw [HLN.out]; omega
        rw [R0.cell (bcel_get l j hl), HG.out j hl]
      have f2 := R2.frozen
      have hq' : q = 0 ∨ q = 1 ∨ q = 2 ∨ q = 3 := by have := HQ.out; omega
      rcases hb : a.testBit j with _ | _
      · rw [hb] at HH cb
        simp only [Bool.toNat_false, Nat.add_zero] at HH
        rw [HH.out] at hlt HC
        clear hb HG
        rcases hq' with rfl | rfl | rfl | rfl
        · have cn : wr.cell? ⟨w.heap.size + 1 + 1, 0, none⟩ = some (.int .u64 (numK a (j + 1) 0 : Int)) := R2.cell rfl
          have hq2 : (j : Int) / 64 = 0 := hq
          clear hq
          have hw2 : IntKind.u64.wrap (2 * (numK a (j + 1) 0 : Int)) = 2 * (numK a (j + 1) 0 : Int) := by rw [IntKind.wrap_u64]; omega
          replace hlt := Lib.hid hlt
          have HV : Hid ((((2 * numK a (j + 1) 0 : Nat)) : Int) = 2 * (numK a (j + 1) 0 : Int)) := show _ = _ by omega
          go_wp2
          go_roundw
          case rel =>
            refine ⟨j, by omega, rfl, ?_, ?_, ?_, ?_⟩
            · exact HN.out.setAt _ (by omega)
            · exact R0.other _ _ _ (by omega)
            · exact R1.other _ _ _ (by omega)
            · rw [← HC.out, HV.out]
              exact R2.set 0 _
          case measure => simp [intOf]
        · have cn : wr.cell? ⟨w.heap.size + 1 + 1, 1, none⟩ = some (.int .u64 (numK a (j + 1) 1 : Int)) := R2.cell rfl
          have hq2 : (j : Int) / 64 = 1 := hq
          clear hq
          have hw2 : IntKind.u64.wrap (2 * (numK a (j + 1) 1 : Int)) = 2 * (numK a (j + 1) 1 : Int) := by rw [IntKind.wrap_u64]; omega
          replace hlt := Lib.hid hlt
          have HV : Hid ((((2 * numK a (j + 1) 1 : Nat)) : Int) = 2 * (numK a (j + 1) 1 : Int)) := show _ = _ by omega
          go_wp2
          go_roundw
          case rel =>
            refine ⟨j, by omega, rfl, ?_, ?_, ?_, ?_⟩
            · exact HN.out.setAt _ (by omega)
            · exact R0.other _ _ _ (by omega)
            · exact R1.other _ _ _ (by omega)
            · rw [← HC.out, HV.out]
              exact R2.set 1 _
          case measure => simp [intOf]
        · have cn : wr.cell? ⟨w.heap.size + 1 + 1, 2, none⟩ = some (.int .u64 (numK a (j + 1) 2 : Int)) := R2.cell rfl
          have hq2 : (j : Int) / 64 = 2 := hq
          clear hq
          have hw2 : IntKind.u64.wrap (2 * (numK a (j + 1) 2 : Int)) = 2 * (numK a (j + 1) 2 : Int) := by rw [IntKind.wrap_u64]; omega
          replace hlt := Lib.hid hlt
          have HV : Hid ((((2 * numK a (j + 1) 2 : Nat)) : Int) = 2 * (numK a (j + 1) 2 : Int)) := show _ = _ by omega
          go_wp2
          go_roundw
          case rel =>
            refine ⟨j, by omega, rfl, ?_, ?_, ?_, ?_⟩
            · exact HN.out.setAt _ (by omega)
            · exact R0.other _ _ _ (by omega)
            · exact R1.other _ _ _ (by omega)
            · rw [← HC.out, HV.out]
              exact R2.set 2 _
          case measure => simp [intOf]
        · have cn : wr.cell? ⟨w.heap.size + 1 + 1, 3, none⟩ = some (.int .u64 (numK a (j + 1) 3 : Int)) := R2.cell rfl
          have hq2 : (j : Int) / 64 = 3 := hq
          clear hq
          have hw2 : IntKind.u64.wrap (2 * (numK a (j + 1) 3 : Int)) = 2 * (numK a (j + 1) 3 : Int) := by rw [IntKind.wrap_u64]; omega
          replace hlt := Lib.hid hlt
          have HV : Hid ((((2 * numK a (j + 1) 3 : Nat)) : Int) = 2 * (numK a (j + 1) 3 : Int)) := show _ = _ by omega
          go_wp2
          go_roundw
          case rel =>
            refine ⟨j, by omega, rfl, ?_, ?_, ?_, ?_⟩
            · exact HN.out.setAt _ (by omega)
            · exact R0.other _ _ _ (by omega)
            · exact R1.other _ _ _ (by omega)
            · rw [← HC.out, HV.out]
              exact R2.set 3 _
          case measure => simp [intOf]
      · rw [hb] at HH cb
        simp only [Bool.toNat_true] at HH
        rw [HH.out] at hlt HC
        clear hb HG
        rcases hq' with rfl | rfl | rfl | rfl
        · have cn : wr.cell? ⟨w.heap.size + 1 + 1, 0, none⟩ = some (.int .u64 (numK a (j + 1) 0 : Int)) := R2.cell rfl
          have hq2 : (j : Int) / 64 = 0 := hq
          clear hq
          have hw2 : IntKind.u64.wrap (2 * (numK a (j + 1) 0 : Int)) = 2 * (numK a (j + 1) 0 : Int) := by rw [IntKind.wrap_u64]; omega
          have hw3 : IntKind.u64.wrap (2 * (numK a (j + 1) 0 : Int) + 1) = 2 * (numK a (j + 1) 0 : Int) + 1 := by rw [IntKind.wrap_u64]; omega
          replace hlt := Lib.hid hlt
          have HV : Hid ((((2 * numK a (j + 1) 0 + 1 : Nat)) : Int) = 2 * (numK a (j + 1) 0 : Int) + 1) := show _ = _ by omega
          go_wp2
          go_roundw
          case rel =>
            refine ⟨j, by omega, rfl, ?_, ?_, ?_, ?_⟩
            · exact (HN.out.setAt _ (by omega)).setAt _ (by omega)
            · exact (R0.other _ _ _ (by omega)).other _ _ _ (by omega)
            · exact (R1.other _ _ _ (by omega)).other _ _ _ (by omega)
            · rw [← HC.out, HV.out]
              exact (set_twice (ncel a (j + 1)) 0 _ _) ▸ (R2.set 0 _).set 0 _
          case measure => simp [intOf]
        · have cn : wr.cell? ⟨w.heap.size + 1 + 1, 1, none⟩ = some (.int .u64 (numK a (j + 1) 1 : Int)) := R2.cell rfl
          have hq2 : (j : Int) / 64 = 1 := hq
          clear hq
          have hw2 : IntKind.u64.wrap (2 * (numK a (j + 1) 1 : Int)) = 2 * (numK a (j + 1) 1 : Int) := by rw [IntKind.wrap_u64]; omega
          have hw3 : IntKind.u64.wrap (2 * (numK a (j + 1) 1 : Int) + 1) = 2 * (numK a (j + 1) 1 : Int) + 1 := by rw [IntKind.wrap_u64]; omega
          replace hlt := Lib.hid hlt
          have HV : Hid ((((2 * numK a (j + 1) 1 + 1 : Nat)) : Int) = 2 * (numK a (j + 1) 1 : Int) + 1) := show _ = _ by omega
          go_wp2
          go_roundw
          case rel =>
            refine ⟨j, by omega, rfl, ?_, ?_, ?_, ?_⟩
            · exact (HN.out.setAt _ (by omega)).setAt _ (by omega)
            · exact (R0.other _ _ _ (by omega)).other _ _ _ (by omega)
            · exact (R1.other _ _ _ (by omega)).other _ _ _ (by omega)
            · rw [← HC.out, HV.out]
              exact (set_twice (ncel a (j + 1)) 1 _ _) ▸ (R2.set 1 _).set 1 _
          case measure => simp [intOf]
        · have cn : wr.cell? ⟨w.heap.size + 1 + 1, 2, none⟩ = some (.int .u64 (numK a (j + 1) 2 : Int)) := R2.cell rfl
          have hq2 : (j : Int) / 64 = 2 := hq
          clear hq
          have hw2 : IntKind.u64.wrap (2 * (numK a (j + 1) 2 : Int)) = 2 * (numK a (j + 1) 2 : Int) := by rw [IntKind.wrap_u64]; omega
          have hw3 : IntKind.u64.wrap (2 * (numK a (j + 1) 2 : Int) + 1) = 2 * (numK a (j + 1) 2 : Int) + 1 := by rw [IntKind.wrap_u64]; omega
          replace hlt := Lib.hid hlt
          have HV : Hid ((((2 * numK a (j + 1) 2 + 1 : Nat)) : Int) = 2 * (numK a (j + 1) 2 : Int) + 1) := show _ = _ by omega
          go_wp2
          go_roundw
          case rel =>
            refine ⟨j, by omega, rfl, ?_, ?_, ?_, ?_⟩
            · exact (HN.out.setAt _ (by omega)).setAt _ (by omega)
            · exact (R0.other _ _ _ (by omega)).other _ _ _ (by omega)
            · exact (R1.other _ _ _ (by omega)).other _ _ _ (by omega)
            · rw [← HC.out, HV.out]
              exact (set_twice (ncel a (j + 1)) 2 _ _) ▸ (R2.set 2 _).set 2 _
          case measure => simp [intOf]
        · have cn : wr.cell? ⟨w.heap.size + 1 + 1, 3, none⟩ = some (.int .u64 (numK a (j + 1) 3 : Int)) := R2.cell rfl
          have hq2 : (j : Int) / 64 = 3 := hq
          clear hq
          have hw2 : IntKind.u64.wrap (2 * (numK a (j + 1) 3 : Int)) = 2 * (numK a (j + 1) 3 : Int) := by rw [IntKind.wrap_u64]; omega
          have hw3 : IntKind.u64.wrap (2 * (numK a (j + 1) 3 : Int) + 1) = 2 * (numK a (j + 1) 3 : Int) + 1 := by rw [IntKind.wrap_u64]; omega
          replace hlt := Lib.hid hlt
          have HV : Hid ((((2 * numK a (j + 1) 3 + 1 : Nat)) : Int) = 2 * (numK a (j + 1) 3 : Int) + 1) := show _ = _ by omega
          go_wp2
          go_roundw
          case rel =>
            refine ⟨j, by omega, rfl, ?_, ?_, ?_, ?_⟩
            · exact (HN.out.setAt _ (by omega)).setAt _ (by omega)
            · exact (R0.other _ _ _ (by omega)).other _ _ _ (by omega)
            · exact (R1.other _ _ _ (by omega)).other _ _ _ (by omega)
            · rw [← HC.out, HV.out]
              exact (set_twice (ncel a (j + 1)) 3 _ _) ▸ (R2.set 3 _).set 3 _
          case measure => simp [intOf]
end Go.Proofs.Ytggemncdnclhnaa
