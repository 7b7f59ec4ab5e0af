/- THE REFERENCE OF LAYER 3: Of, OfHash, ToHash, Len. -/
import Derived.Test.YtggemncdnclhnaaRefAdd
import Derived.Test.YtggemncdnclhnaaHash1
import Derived.Test.YtggemncdnclhnaaBig2
import Derived.Test.YtggemncdnclhnaaBigLen
namespace Go.Proofs.Ytggemncdnclhnaa
open Go.RowKit
set_option linter.unusedVariables false
set_option linter.unusedSimpArgs false

theorem refOf_any (n : Nat) (w : World) (h : (n : Int) ≤ 18446744073709551615) :
    Calls Try.prog 16 #[.int .u64 (n : Int)] w fun e w' => e = .returned (.agg #[.int .u64 (lim n 0 : Int), .int .u64 (lim n 1 : Int), .int .u64 (lim n 2 : Int), .int .u64 (lim n 3 : Int)]) ∧ Nx w w' := by
  obtain ⟨e0, e1, e2, e3⟩ := lim_small h
  rw [e0, e1, e2, e3]
  clear e0 e1 e2 e3
  go_enter Try.func16, Try.ntmps16
  go_wp2
  exact bodyPost_ret (v := .agg #[.int .u64 (n : Int), .int .u64 0, .int .u64 0, .int .u64 0]) (by simp [results, Try.results16, go_sem]) rfl ⟨rfl, by repeat (first | exact Nx.refl _ | apply Nx.drewN | apply Nx.alloc | refine Nx.setAt ?_ _ (by omega))⟩

/-- Bytes of the number, laid from above: k bytes to go. -/
def numK8 (a k : Nat) : Nat → Nat := fun q => if 8 * (q + 1) ≤ k then 0 else lim a q / 2 ^ (8 * k - 64 * q)
def ncel8 (a k : Nat) : Array Value := #[.int .u64 (numK8 a k 0 : Int), .int .u64 (numK8 a k 1 : Int), .int .u64 (numK8 a k 2 : Int), .int .u64 (numK8 a k 3 : Int)]
theorem numK8_lt (a k q : Nat) : numK8 a k q < 18446744073709551616 := by
  unfold numK8
  have := lim_lt a q
  split
  · decide
  · exact Nat.lt_of_le_of_lt (Nat.div_le_self _ _) this
theorem numK8_other (a j q i : Nat) (h : j / 8 = q) (hi : i ≠ q) : numK8 a j i = numK8 a (j + 1) i := by
  unfold numK8
  by_cases h1 : 8 * (i + 1) ≤ j
  · rw [if_pos h1, if_pos (by omega)]
  · rw [if_neg h1, if_neg (by omega), show 8 * j - 64 * i = 8 * (j + 1) - 64 * i by omega]
theorem numK8_here (a j q : Nat) (h : j / 8 = q) : numK8 a j q = 256 * numK8 a (j + 1) q + (UInt8.ofNat (a / 256 ^ j)).toNat := by
  have hb := low_byte a j q (8 * j - 64 * q) (by omega) (by omega)
  rw [div_pow] at hb
  have e1 : numK8 a j q = lim a q / 2 ^ (8 * j - 64 * q) := by unfold numK8; rw [if_neg (by omega)]
  have e2 : numK8 a (j + 1) q = lim a q / 2 ^ (8 * j - 64 * q) / 256 := by
    unfold numK8
    rw [Nat.div_div_eq_div_mul, show (2 : Nat) ^ (8 * j - 64 * q) * 256 = 2 ^ (8 * j - 64 * q + 8) by rw [Nat.pow_add]]
    by_cases h7 : 8 * (q + 1) ≤ j + 1
    · rw [if_pos h7, Nat.div_eq_of_lt]
      have := lim_lt a q
      rw [show 8 * j - 64 * q + 8 = 64 by omega]
      exact this
    · rw [if_neg h7, show 8 * (j + 1) - 64 * q = 8 * j - 64 * q + 8 by omega]
  rw [e1, e2]
  generalize lim a q / 2 ^ (8 * j - 64 * q) = y at *
  omega
theorem ncel8_set (a j q : Nat) (hq : q < 4) (h : j / 8 = q) : (ncel8 a (j + 1)).setIfInBounds q (.int .u64 (numK8 a j q : Int)) = ncel8 a j := by
  unfold ncel8
  have O := numK8_other a j q
  have hq' : q = 0 ∨ q = 1 ∨ q = 2 ∨ q = 3 := by omega
  rcases hq' with rfl | rfl | rfl | rfl
  · rw [O 1 h (by omega), O 2 h (by omega), O 3 h (by omega)]; rfl
  · rw [O 0 h (by omega), O 2 h (by omega), O 3 h (by omega)]; rfl
  · rw [O 0 h (by omega), O 1 h (by omega), O 3 h (by omega)]; rfl
  · rw [O 0 h (by omega), O 1 h (by omega), O 2 h (by omega)]; rfl
theorem ncel8_top (a : Nat) : ncel8 a 32 = #[.int .u64 0, .int .u64 0, .int .u64 0, .int .u64 0] := rfl
theorem ncel8_zero (a : Nat) : ncel8 a 0 = #[.int .u64 (lim a 0 : Int), .int .u64 (lim a 1 : Int), .int .u64 (lim a 2 : Int), .int .u64 (lim a 3 : Int)] := by
  unfold ncel8 numK8
  simp
theorem low_take (n m k : Nat) (h : k ≤ m) : (low n m).take k = low n k := by
  induction m with
  | zero => simp [show k = 0 by omega, low]
  | succ m ih =>
    by_cases hk : k = m + 1
    · subst hk; rw [List.take_of_length_le (by simp)]
    · rw [low_snoc, List.take_append_of_le_length (by simp; omega), ih (by omega)]
theorem byte_of (h : List UInt8) (j : Nat) (hj : j < h.length) : UInt8.ofNat (num h / 256 ^ j) = h[j] := by
  have e := low_num h
  have e2 : (low (num h) h.length)[j]? = h[j]? := by rw [e]
  have hs : low (num h) h.length = (low (num h) (j + 1)) ++ (low (num h) h.length).drop (j + 1) := by
    have ht : (low (num h) h.length).take (j + 1) = low (num h) (j + 1) := low_take _ _ _ (by omega)
    rw [← ht, List.take_append_drop]
  rw [hs, low_snoc, List.append_assoc, List.getElem?_append_right (by simp), low_length, Nat.sub_self] at e2
  simp [hj] at e2
  exact e2

set_option maxHeartbeats 2000000 in
theorem refOfHash_any (h : List UInt8) (w : World) (hh : h.length = 32) :
    Calls Try.prog 18 #[.agg (hcel h)] w fun e w' => e = .returned (.agg #[.int .u64 (lim (num h) 0 : Int), .int .u64 (lim (num h) 1 : Int), .int .u64 (lim (num h) 2 : Int), .int .u64 (lim (num h) 3 : Int)]) ∧ Nx w w' := by
  have HL := Lib.hid hh
  have HBY := Lib.hid (fun j hj => byte_of h j hj)
  clear hh
  generalize num h = a at *
  go_enter Try.func18, Try.ntmps18
  go_wp2
  go_loopw [4] (fun i wr => ∃ k : Nat, k ≤ 32 ∧ i = .int .i64 ((k : Int) - 1) ∧ Hid (Nx w wr) ∧ Row wr w.heap.size (hcel h) 26 ∧ Row wr (w.heap.size + 1) #[.int .u64 0, .int .u64 0, .int .u64 0, .int .u64 0] 24 ∧ Row wr (w.heap.size + 1 + 1) (ncel8 a k) 24) (fun i _ => (intOf i + 1).toNat)
  case atStart =>
    refine ⟨32, by omega, rfl, (((Nx.refl w).alloc _).alloc _).alloc _, ((Row.new _ _ _ _ rfl).alloc _).alloc _, (Row.new2 _ _ _ _).alloc _, ?_⟩
    rw [ncel8_top]
    exact Row.new3 _ _ _ _ _
  case round =>
    obtain ⟨k, hk, rfl, HN, R0, R1, R2⟩ := hrel
    by_cases hk0 : k = 0
    · subst hk0
      rw [ncel8_zero] at R2
      obtain ⟨t0, t1, t2, t3⟩ := R2.four
      obtain ⟨z0, z1, z2, z3⟩ := R1.zero4
      have f1 := R1.frozen
      go_wp2
      exact bodyPost_ret (v := .agg #[.int .u64 (lim a 0 : Int), .int .u64 (lim a 1 : Int), .int .u64 (lim a 2 : Int), .int .u64 (lim a 3 : Int)]) (by simp [results, Try.results18, go_sem, t0, t1, t2, t3, z0, z1, z2, z3, f1]) rfl
        ⟨rfl, by repeat (first | with_reducible exact HN.out | with_reducible apply Nx.drew | with_reducible refine Nx.setAt ?_ _ (by omega))⟩
    · obtain ⟨j, rfl⟩ : ∃ j, k = j + 1 := ⟨k - 1, by omega⟩
      have ej : (((j + 1 : Nat) : Int) - 1) = (j : Int) := by omega
      rw [ej]
      clear ej
      have hjl : j < h.length := by rw [HL.out]; omega
      obtain ⟨q, hq⟩ : ∃ q : Nat, (j : Int) / 8 = (q : Int) := ⟨j / 8, by omega⟩
      have HQ : Hid (q < 4) := show _ < _ by omega
      have HJQ : Hid (j / 8 = q) := show _ = _ by omega
      have hj0 : (0 : Int) ≤ (j : Int) := by omega
      have hj1 : (j : Int) < 32 := by omega
      have HH := Lib.hid (numK8_here a j q HJQ.out)
      have hlt := numK8_lt a j q
      have HC := Lib.hid (ncel8_set a j q HQ.out HJQ.out)
      have cb : wr.cell? ⟨w.heap.size, j, none⟩ = some (.int .u8 ((h[j]).toNat : Int)) := R0.cell (hcel_get h j hjl)
      have hw5 : IntKind.u64.wrap ((h[j]).toNat : Int) = ((h[j]).toNat : Int) := by rw [IntKind.wrap_u64]; have := (h[j]).toNat_lt; omega
      replace HH := Lib.hid (show numK8 a j q = 256 * numK8 a (j + 1) q + (h[j]).toNat by rw [HH.out, HBY.out j hjl])
      rw [HH.out] at hlt HC
      clear HBY HL
      generalize h[j] = x at *
      have hx0 : (0 : Int) ≤ (x.toNat : Int) := by omega
      have hx1 : (x.toNat : Int) ≤ 255 := by have := x.toNat_lt; omega
      have f2 := R2.frozen
      have hv0 : IntKind.i64.wrap (0 : Int) = 0 := by decide
      have hv1 : IntKind.i64.wrap (1 : Int) = 1 := by decide
      have hv2 : IntKind.i64.wrap (2 : Int) = 2 := by decide
      have hv3 : IntKind.i64.wrap (3 : Int) = 3 := by decide
      have hq' : q = 0 ∨ q = 1 ∨ q = 2 ∨ q = 3 := by have := HQ.out; omega
      rcases hq' with rfl | rfl | rfl | rfl
      · have cn : wr.cell? ⟨w.heap.size + 1 + 1, 0, none⟩ = some (.int .u64 (numK8 a (j + 1) 0 : Int)) := R2.cell rfl
        have hq2 : (j : Int) / 8 = 0 := hq
        clear hq
        generalize hy : numK8 a (j + 1) 0 = y at *
        clear hy
        have hw2 : IntKind.u64.wrap (256 * (y : Int)) = 256 * (y : Int) := by rw [IntKind.wrap_u64]; omega
        have hw3 : IntKind.u64.wrap (256 * (y : Int) + (x.toNat : Int)) = 256 * (y : Int) + (x.toNat : Int) := by rw [IntKind.wrap_u64]; omega
        replace hlt := Lib.hid hlt
        have HV : Hid ((((256 * y + x.toNat : Nat)) : Int) = 256 * (y : Int) + (x.toNat : Int)) := show _ = _ by omega
        go_wp2
        go_still_tail 13, (by kernel_rfl)
        change wpList _ _ _ _ _ wr.drew
        go_wp2
        go_roundw
        case rel =>
          refine ⟨j, by omega, rfl, HN.out.drew.setAt _ (by omega), R0.drew.other _ _ _ (by omega), R1.drew.other _ _ _ (by omega), ?_⟩
          rw [← HC.out, HV.out]
          exact R2.drew.set 0 _
        case measure => simp [intOf]
      · have cn : wr.cell? ⟨w.heap.size + 1 + 1, 1, none⟩ = some (.int .u64 (numK8 a (j + 1) 1 : Int)) := R2.cell rfl
        have hq2 : (j : Int) / 8 = 1 := hq
        clear hq
        generalize hy : numK8 a (j + 1) 1 = y at *
        clear hy
        have hw2 : IntKind.u64.wrap (256 * (y : Int)) = 256 * (y : Int) := by rw [IntKind.wrap_u64]; omega
        have hw3 : IntKind.u64.wrap (256 * (y : Int) + (x.toNat : Int)) = 256 * (y : Int) + (x.toNat : Int) := by rw [IntKind.wrap_u64]; omega
        replace hlt := Lib.hid hlt
        have HV : Hid ((((256 * y + x.toNat : Nat)) : Int) = 256 * (y : Int) + (x.toNat : Int)) := show _ = _ by omega
        go_wp2
        go_still_tail 13, (by kernel_rfl)
        change wpList _ _ _ _ _ wr.drew
        go_wp2
        go_roundw
        case rel =>
          refine ⟨j, by omega, rfl, HN.out.drew.setAt _ (by omega), R0.drew.other _ _ _ (by omega), R1.drew.other _ _ _ (by omega), ?_⟩
          rw [← HC.out, HV.out]
          exact R2.drew.set 1 _
        case measure => simp [intOf]
      · have cn : wr.cell? ⟨w.heap.size + 1 + 1, 2, none⟩ = some (.int .u64 (numK8 a (j + 1) 2 : Int)) := R2.cell rfl
        have hq2 : (j : Int) / 8 = 2 := hq
        clear hq
        generalize hy : numK8 a (j + 1) 2 = y at *
        clear hy
        have hw2 : IntKind.u64.wrap (256 * (y : Int)) = 256 * (y : Int) := by rw [IntKind.wrap_u64]; omega
        have hw3 : IntKind.u64.wrap (256 * (y : Int) + (x.toNat : Int)) = 256 * (y : Int) + (x.toNat : Int) := by rw [IntKind.wrap_u64]; omega
        replace hlt := Lib.hid hlt
        have HV : Hid ((((256 * y + x.toNat : Nat)) : Int) = 256 * (y : Int) + (x.toNat : Int)) := show _ = _ by omega
        go_wp2
        go_still_tail 13, (by kernel_rfl)
        change wpList _ _ _ _ _ wr.drew
        go_wp2
        go_roundw
        case rel =>
          refine ⟨j, by omega, rfl, HN.out.drew.setAt _ (by omega), R0.drew.other _ _ _ (by omega), R1.drew.other _ _ _ (by omega), ?_⟩
          rw [← HC.out, HV.out]
          exact R2.drew.set 2 _
        case measure => simp [intOf]
      · have cn : wr.cell? ⟨w.heap.size + 1 + 1, 3, none⟩ = some (.int .u64 (numK8 a (j + 1) 3 : Int)) := R2.cell rfl
        have hq2 : (j : Int) / 8 = 3 := hq
        clear hq
        generalize hy : numK8 a (j + 1) 3 = y at *
        clear hy
        have hw2 : IntKind.u64.wrap (256 * (y : Int)) = 256 * (y : Int) := by rw [IntKind.wrap_u64]; omega
        have hw3 : IntKind.u64.wrap (256 * (y : Int) + (x.toNat : Int)) = 256 * (y : Int) + (x.toNat : Int) := by rw [IntKind.wrap_u64]; omega
        replace hlt := Lib.hid hlt
        have HV : Hid ((((256 * y + x.toNat : Nat)) : Int) = 256 * (y : Int) + (x.toNat : Int)) := show _ = _ by omega
        go_wp2
        go_still_tail 13, (by kernel_rfl)
        change wpList _ _ _ _ _ wr.drew
        go_wp2
        go_roundw
        case rel =>
          refine ⟨j, by omega, rfl, HN.out.drew.setAt _ (by omega), R0.drew.other _ _ _ (by omega), R1.drew.other _ _ _ (by omega), ?_⟩
          rw [← HC.out, HV.out]
          exact R2.drew.set 3 _
        case measure => simp [intOf]
end Go.Proofs.Ytggemncdnclhnaa
