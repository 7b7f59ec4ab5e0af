/- LAYER 2: the document's part, prime, primes. -/
import Derived.Test.YtjbeemoobmagnaaDoorShaK3
import Derived.Test.YtjbeemoobmagnaaDoorEl2
namespace Go.Proofs.YtjbeemoobmagnaaDoor
open Go Go.RowKit
set_option linter.unusedVariables false
set_option linter.unusedSimpArgs false
set_option linter.unusedVariables false
set_option linter.unusedSimpArgs false

theorem wrap_small (p : Nat) (h : p < 18446744073709551616) : IntKind.u64.wrap (p : Int) = (p : Int) := by rw [IntKind.wrap_u64]; omega
theorem partF_next (n : Nat) (cube : Bool) (b x : Nat) : partF n cube (b + 1) x = partF n cube b (if mostF (x ||| 2 ^ b) n cube then x ||| 2 ^ b else x) := by rw [partF]
theorem pow_small (b : Nat) (h : b < 40) : 2 ^ b < 18446744073709551616 := by
  have : 2 ^ b ≤ 2 ^ 40 := Nat.pow_le_pow_right (by decide) (by omega)
  have e : (2 : Nat) ^ 40 = 1099511627776 := by decide
  omega
set_option maxRecDepth 20000 in
set_option maxHeartbeats 4000000 in
theorem kpart_any (n : Nat) (cube : Bool) (w : World) (hn : n < 18446744073709551616) :
    Calls Tryd.prog 45 #[.int .u64 (n : Int), .bool cube] w fun e w' => e = .returned (.int .u32 ((partF n cube 40 0 % 4294967296 : Nat) : Int)) ∧ Nx w w' := by
  obtain ⟨F, hF⟩ : ∃ F, partF n cube 40 0 = F := ⟨_, rfl⟩
  rw [hF]
  have HM := Lib.hid (fun x (hx : x < 18446744073709551616) w => kmost_any x n cube w hx hn)
  have HNX := Lib.hid (partF_next n cube)
  replace hF := Lib.hid hF
  clear hn
  have HR : Hid (IntKind.u32.wrap (F : Int) = ((F % 4294967296 : Nat) : Int)) := Lib.hid (by simp only [IntKind.wrap_u32']; rfl)
  go_enter Tryd.func45, Tryd.ntmps45
  go_wp2_with fail
  go_loopw [5, 6] (fun xv iv wr => ∃ (b x : Nat) (z : Int), z + 1 = b ∧ b ≤ 40 ∧ iv = .int .i64 z ∧ xv = .int .u64 (x : Int) ∧ Hid (x < 18446744073709551616) ∧ Hid (partF n cube b x = F) ∧ Nx w wr) (fun _ iv _ => (intOf iv + 1).toNat)
  case atStart => exact ⟨40, 0, 39, rfl, Nat.le_refl _, rfl, rfl, Lib.hid (by decide), hF, Nx.refl w⟩
  case round =>
    clear hF
    obtain ⟨b, x, z, hz, hb, rfl, rfl, HX, HF, HN⟩ := hrel
    rcases Nat.eq_zero_or_pos b with h0 | h0
    · subst h0
      obtain rfl : z = -1 := by omega
      have he : x = F := HF.out
      subst he
      go_wp2_with fail
      go_ret
      exact ⟨by rw [← HR.out]; rfl, HN⟩
    · obtain ⟨b, rfl⟩ : ∃ q, b = q + 1 := ⟨b - 1, by omega⟩
      obtain rfl : z = (b : Int) := by omega
      have hbi : (b : Int) ≤ 39 := by omega
      have hnx := HNX.out b x
      rw [HF.out] at hnx
      have hpw := pow_small b (by omega)
      have hor := u64_or_nat x (2 ^ b) HX.out hpw
      have hob := or_lt x (2 ^ b) HX.out hpw
      have C := Lib.hid (HM.out _ hob)
      have hp0 : (2 : Int) ^ b = ((2 ^ b : Nat) : Int) := by simp
      have hp1 := wrap_small _ hpw
      generalize x ||| 2 ^ b = y at *
      generalize (2 ^ b : Nat) = p at *
      replace hob := Lib.hid hob
      replace hnx := Lib.hid hnx.symm
      replace hpw := Lib.hid hpw
      clear HF
      go_wp2_with fail
      refine (C.out _).mono ?_
      rintro e w1 ⟨rfl, n1⟩
      have N1 := Lib.hid (HN.trans n1)
      clear n1
      have hbz := Lib.hid (show (b : Int) - 1 + 1 = b by omega)
      have hb2 := Lib.hid (show b ≤ 40 by omega)
      cases hm : mostF y n cube
      · rw [hm] at hnx
        go_wp2_with fail
        go_roundw
        case rel => exact ⟨b, x, (b : Int) - 1, hbz.out, hb2.out, by go_num, rfl, HX, hnx, N1.out⟩
        case measure => simp [intOf]
      · rw [hm] at hnx
        go_wp2_with fail
        go_roundw
        case rel => exact ⟨b, y, (b : Int) - 1, hbz.out, hb2.out, by go_num, rfl, hob, hnx, N1.out⟩
        case measure => simp [intOf]

theorem primeF_next (n k i : Nat) : primeF n (k + 1) i = if i * i ≤ n then (if n % i = 0 then false else primeF n k (i + 1)) else decide (1 < n) := by rw [primeF]
set_option maxRecDepth 20000 in
set_option maxHeartbeats 4000000 in
theorem kprime_any (n : Nat) (w : World) (hn : n ≤ 1000) :
    Calls Tryd.prog 75 #[.int .u64 (n : Int)] w fun e w' => e = .returned (.bool (primeF n n 2)) ∧ w' = w := by
  obtain ⟨F, hF⟩ : ∃ F, primeF n n 2 = F := ⟨_, rfl⟩
  rw [hF]
  replace hF := Lib.hid hF
  have hni : (n : Int) ≤ 1000 := by omega
  have HD : Hid (decide (1 < n) = decide ((1 : Int) < (n : Int))) := Lib.hid (by rw [Bool.eq_iff_iff, decide_eq_true_iff, decide_eq_true_iff]; omega)
  have HNX := Lib.hid (primeF_next n)
  go_enter Tryd.func75, Tryd.ntmps75
  go_wp2_with fail
  go_loop [3] (fun iv => ∃ k i : Nat, iv = .int .u64 (i : Int) ∧ i + k = n + 2 ∧ 2 ≤ i ∧ Hid (primeF n k i = F)) (fun iv => 1002 - (intOf iv).toNat)
  case atStart => exact ⟨n, 2, rfl, by omega, by decide, hF⟩
  case round =>
    clear hF
    obtain ⟨k, i, rfl, hik, hi2, HF⟩ := hrel
    have hib : (i : Int) ≤ 1002 := by omega
    have hnz : ((i : Int) == 0) = false := by simp; omega
    have hnz2 : (i : Int) ≠ 0 := by omega
    have hqb : i * i ≤ 1002 * 1002 := Nat.mul_le_mul (by omega) (by omega)
    have hqi : i ≤ i * i := Nat.le_mul_of_pos_left _ (by omega)
    have hq : IntKind.u64.wrap ((i : Int) * (i : Int)) = ((i * i : Nat) : Int) := by
      rw [show (i : Int) * (i : Int) = ((i * i : Nat) : Int) by rfl, IntKind.wrap_u64]
      omega
    rcases Nat.eq_zero_or_pos k with h0 | h0
    · subst h0
      have he : decide (1 < n) = F := HF.out
      have hgt : ¬ (((i * i : Nat)) : Int) ≤ (n : Int) := by omega
      rw [HD.out] at he
      replace he := Lib.hid he
      generalize i * i = q at *
      clear hqb hqi
      go_wp2_with fail
      go_ret
      exact ⟨by rw [← he.out]; rfl, rfl⟩
    · obtain ⟨k, rfl⟩ : ∃ q, k = q + 1 := ⟨k - 1, by omega⟩
      have hnx := HNX.out k i
      rw [HF.out] at hnx
      have hr1 : (n : Int).tmod (i : Int) = ((n % i : Nat) : Int) := rfl
      have hr2 : (n : Int) % (i : Int) = ((n % i : Nat) : Int) := rfl
      by_cases hle : i * i ≤ n
      · have hlei : (((i * i : Nat)) : Int) ≤ (n : Int) := by omega
        rw [if_pos hle] at hnx
        by_cases hz : n % i = 0
        · rw [if_pos hz] at hnx
          have hzi : (((n % i : Nat) : Int) == 0) = true := by simp; omega
          replace hnx := Lib.hid hnx
          generalize i * i = q at *
          generalize n % i = r at *
          clear hqb hqi hle hz
          go_wp2_with fail
          go_ret
          exact ⟨by rw [hnx.out]; rfl, rfl⟩
        · rw [if_neg hz] at hnx
          have hzi : (((n % i : Nat) : Int) == 0) = false := by simp; omega
          replace hnx := Lib.hid hnx.symm
          generalize i * i = q at *
          generalize n % i = r at *
          clear hqb hqi hle hz
          go_wp2_with fail
          go_round
          case rel => exact ⟨k, i + 1, by go_num, by omega, by omega, hnx⟩
          case measure => simp [intOf]; omega
      · have hlei : ¬ (((i * i : Nat)) : Int) ≤ (n : Int) := by omega
        rw [if_neg hle, HD.out] at hnx
        replace hnx := Lib.hid hnx
        generalize i * i = q at *
        clear hqb hqi hle hr1 hr2
        go_wp2_with fail
        go_ret
        exact ⟨by rw [hnx.out]; rfl, rfl⟩

def uvs (l : List Nat) : List Value := l.map fun (n : Nat) => .int .u64 (n : Int)
theorem uvs_one (l : List Nat) : ∀ u ∈ uvs l, u.oneCell' = true := by
  intro u hu
  simp only [uvs, List.mem_map] at hu
  obtain ⟨x, _, rfl⟩ := hu
  rfl
theorem uvs_length (l : List Nat) : (uvs l).length = l.length := by simp [uvs]
theorem run_mk1q (a : Int) (w : World) : (Instr.buildSlice 63 1 #[(0, .int .u64 a)]).run Tryd.prog w = .ok (.slice (some ⟨w.heap.size, 0, none⟩) 1 1) (w.alloc (.cells #[.int .u64 a] 66)) := by
  kernel_rfl
theorem rdF_one (a : Nat) (w : World) : RdF 1 (w.alloc (.cells #[.int .u64 (a : Int)] 66)) (.slice (some ⟨w.heap.size, 0, none⟩) 1 1) 1 (uvs [a]) := by
  refine ⟨rfl, uvs_one _, _, _, rfl, Nat.le_refl _, by decide, fun _ => ⟨_, _, rfl, by simp, fun j hj => ?_⟩⟩
  have : j = 0 := by simpa [uvs] using hj
  subst this
  exact (Row.new w #[.int .u64 (a : Int)] 66 _ rfl).cell rfl
theorem primesF_next (k many n : Nat) (l : List Nat) : primesF (k + 1) many n l = if l.length < many then primesF k many (n + 1) (if primeF n n 2 then l ++ [n] else l) else l := by rw [primesF]
set_option maxRecDepth 20000 in
set_option maxHeartbeats 4000000 in
theorem kprimes_any (many : Nat) (w : World) (hm : many ≤ 64) (hl : (primesF 400 many 2 []).length = many) :
    Calls Tryd.prog 44 #[.int .i64 (many : Int)] w fun e w' => ∃ v, e = .returned v ∧ RdF 1 w' v many (uvs (primesF 400 many 2 [])) ∧ Nx w w' := by
  obtain ⟨F, hF⟩ : ∃ F, primesF 400 many 2 [] = F := ⟨_, rfl⟩
  rw [hF] at hl ⊢
  replace hF := Lib.hid hF
  replace hl := Lib.hid hl
  have HNX := Lib.hid (fun k => primesF_next k many)
  have hmi : (many : Int) ≤ 64 := by omega
  go_enter Tryd.func44, Tryd.ntmps44
  go_wp2_with fail
  go_loopw [3, 4] (fun v nv wr => ∃ (k n : Nat) (l : List Nat), nv = .int .u64 (n : Int) ∧ n + k = 402 ∧ l.length ≤ 64 ∧ OwnF 66 1 w.heap.size wr v l.length (uvs l) ∧ Hid (primesF k many n l = F) ∧ Nx w wr) (fun _ nv _ => 402 - (intOf nv).toNat)
  case atStart => exact ⟨400, 2, [], rfl, rfl, by simp, OwnF.nil _ _ _ _, hF, Nx.refl w⟩
  case round =>
    clear hF
    obtain ⟨k, n, l, rfl, hnk, hll, HO, HF, HN⟩ := hrel
    have HR := Lib.hid (HO.rd (uvs_one l))
    have HLI : (l.length : Int) ≤ 64 := by omega
    have HNB : (n : Int) ≤ 402 := by omega
    by_cases hlt : l.length < many
    · have hlti : (l.length : Int) < (many : Int) := by omega
      obtain ⟨k, rfl⟩ : ∃ q, k = q + 1 := by
        rcases Nat.eq_zero_or_pos k with h0 | h0
        · subst h0
          have he : l = F := HF.out
          rw [he, hl.out] at hlt
          omega
        · exact ⟨k - 1, by omega⟩
      have hnx := HNX.out k n l
      rw [HF.out, if_pos hlt] at hnx
      have HP := Lib.hid (fun w => kprime_any n w (by omega))
      obtain ⟨-, -, A, c, rfl, -⟩ := HR.out
      replace HO := Lib.hid HO
      replace hlt := Lib.hid hlt
      replace hnk := Lib.hid hnk
      go_wp2_with fail
      refine (HP.out _).mono ?_
      rintro e w1 ⟨rfl, rfl⟩
      cases hp : primeF n n 2
      · rw [hp] at hnx
        replace hnx := Lib.hid hnx.symm
        go_wp2_with fail
        go_roundw
        case rel => exact ⟨k, n + 1, l, by go_num, by have := hnk.out; omega, hll, HO.out, hnx, HN⟩
        case measure => have := hnk.out; simp [intOf]; omega
      · rw [hp] at hnx
        replace hnx := Lib.hid hnx.symm
        have hmk := run_mk1q (n : Int)
        have HS1 := Lib.hid (rdF_one n w1)
        have NA := Lib.hid (HN.alloc (.cells #[.int .u64 (n : Int)] 66))
        have HO1 := Lib.hid (HO.out.nx ((Nx.refl w1).alloc (.cells #[.int .u64 (n : Int)] 66)))
        go_wp2_with (first | (at_builtin; refine wpList_appF rfl (.tmp 13) (.tmp 15) 63 rfl 66 (.int .u64 0) 1 8 Tryd.underlying63 info_u64 rfl (by decide) w.heap.size (.slice A l.length c) (.slice (some ⟨w1.heap.size, 0, none⟩) 1 1) l.length 1 (uvs l) (uvs [n]) rfl rfl HO1.out HS1.out ?e1 ?e2 NA.out.size ?_))
        case e1 => omega
        case e2 => simp only [maxLen]; omega
        intro v' w' o' b' g1 g2
        have HO2 := Lib.hid o'
        have NB := Lib.hid (NA.out.app b')
        clear o' b' g1 g2 HO1 HS1 hmk NA
        go_wp2_with fail
        go_roundw
        case rel => exact ⟨k, n + 1, l ++ [n], by go_num, by have := hnk.out; omega, by rw [List.length_append, List.length_singleton]; have := hlt.out; omega, by rw [List.length_append, List.length_singleton]; have := HO2.out; rw [show uvs l ++ uvs [n] = uvs (l ++ [n]) by simp [uvs]] at this; exact this, hnx, NB.out⟩
        case measure => have := hnk.out; simp [intOf]; omega
    · have hlti : ¬ (l.length : Int) < (many : Int) := by omega
      have he : l = F := by
        cases k with
        | zero => exact HF.out
        | succ k =>
          have := HF.out
          rw [HNX.out, if_neg hlt] at this
          exact this
      obtain ⟨-, -, A, c, rfl, -⟩ := HR.out
      replace hlt := Lib.hid hlt
      replace HO := Lib.hid HO
      subst he
      go_wp2_with fail
      go_ret
      exact ⟨_, rfl, by have := HR.out; rw [← hl.out]; exact this, HN⟩
end Go.Proofs.YtjbeemoobmagnaaDoor
