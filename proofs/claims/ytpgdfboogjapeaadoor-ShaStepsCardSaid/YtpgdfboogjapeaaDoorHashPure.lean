/- PLAIN FACTS FOR HASHES: 32 bytes, and the number that they are. -/
import Derived.Test.YtpgdfboogjapeaaDoorBigPure2
import Derived.Test.YtpgdfboogjapeaaDoorNums
import Derived.Test.YtpgdfboogjapeaaDoorArrEq
namespace Go.Proofs.YtpgdfboogjapeaaDoor
open Go.RowKit
set_option linter.unusedVariables false
set_option linter.unusedSimpArgs false

/-- Bytes as the cells of an array. -/
def hcel (l : List UInt8) : Array Value := (bvs l).toArray
theorem hcel_size (l : List UInt8) : (hcel l).size = l.length := by simp [hcel]
theorem hcel_get (l : List UInt8) (i : Nat) (h : i < l.length) : (hcel l)[i]? = some (bv l[i]) := by simp [hcel, bvs, h]
theorem hcel_one (l : List UInt8) : (hcel l).all (·.oneCell') = true := by
  rw [Array.all_eq_true']
  intro x hx
  simp only [hcel, bvs, List.mem_toArray, List.mem_map] at hx
  obtain ⟨y, _, rfl⟩ := hx
  rfl
theorem hcel_ints (l : List UInt8) : hcel l = ints .u8 (l.map fun x => (x.toNat : Int)) := by simp [hcel, ints, bvs, List.map_map, Function.comp_def]
theorem hcel_set (l : List UInt8) (i : Nat) (x : UInt8) (h : i < l.length) : (hcel l).setIfInBounds i (bv x) = hcel (l.set i x) := by
  apply Array.ext
  · simp [hcel]
  · intro j h1 h2
    simp only [hcel, List.setIfInBounds_toArray, bvs, List.getElem_toArray]
    first | (simp [List.getElem_set]; done) | (simp [List.getElem_set]; split <;> simp_all)

section
variable {P : Program}
theorem run_index_bytes (t e : TypeId) (n : Nat) (ht : P.underlying t = some (.array n e)) (hag : ∀ w, (isAgg e).run P w = .ok false w) (hsz : ∀ w, (sizeOf e).run P w = .ok 1 w)
    (l : List UInt8) (hl : l.length = n) (i : Nat) (h : i < l.length) (w : World) : (Instr.index t (.agg (hcel l)) (.int .i64 (i : Int))).run P w = .ok (bv l[i]) w := by
  have hi : (0 : Int) ≤ (i : Int) ∧ (i : Int) < (n : Int) := by omega
  simp [Instr.index, asIntOf, run_underlying ht, hsz, part, hag, hcel_get l i h, hi]
  intro hh; omega
end

/-- A digit laid above what there is. -/
theorem digit_lim (t x n q p : Nat) (hn : n = 64 * q + p) (hx : x < 256) (hp : p ≤ 56) (h : t < 2 ^ n) (i : Nat) :
    lim (t + x * 2 ^ n) i = if i = q then lim t q + x * 2 ^ p else lim t i := by
  subst hn
  have hpp : 0 < 2 ^ (64 * q) := Nat.pow_pos (by omega)
  have hxp : x * 2 ^ p + 2 ^ p ≤ 18446744073709551616 := by
    have h1 : (x + 1) * 2 ^ p ≤ 256 * 2 ^ 56 := Nat.mul_le_mul (by omega) (Nat.pow_le_pow_right (by decide) hp)
    rw [Nat.add_mul, Nat.one_mul] at h1
    have h2 : (256 : Nat) * 2 ^ 56 = 18446744073709551616 := by decide
    omega
  have e : x * 2 ^ (64 * q + p) = x * 2 ^ p * 2 ^ (64 * q) := by rw [Nat.add_comm (64 * q), Nat.pow_add, Nat.mul_assoc]
  rw [e]
  have hd : t / 2 ^ (64 * q) < 2 ^ p := by
    rw [Nat.div_lt_iff_lt_mul hpp, ← Nat.pow_add, Nat.add_comm]; exact h
  by_cases hi : i < q
  · rw [if_neg (by omega)]
    unfold lim
    obtain ⟨d, rfl⟩ : ∃ d, q = i + 1 + d := ⟨q - (i + 1), by omega⟩
    have e2 : x * 2 ^ p * 2 ^ (64 * (i + 1 + d)) = 2 ^ (64 * i) * (18446744073709551616 * (x * 2 ^ p * 2 ^ (64 * d))) := by
      rw [show 64 * (i + 1 + d) = 64 * i + (64 + 64 * d) by omega, Nat.pow_add, Nat.pow_add, show (2 : Nat) ^ 64 = 18446744073709551616 by decide]
      rw [Nat.mul_left_comm (x * 2 ^ p), Nat.mul_left_comm (x * 2 ^ p)]
    rw [e2, Nat.add_mul_div_left _ _ (Nat.pow_pos (by omega)), Nat.add_mul_mod_self_left]
  · by_cases hq : i = q
    · subst hq
      rw [if_pos rfl]
      unfold lim
      rw [Nat.add_mul_div_right _ _ hpp]
      generalize t / 2 ^ (64 * i) = y at *
      rw [Nat.mod_eq_of_lt (by omega), Nat.mod_eq_of_lt (by omega)]
    · rw [if_neg hq]
      obtain ⟨j, rfl⟩ : ∃ j, i = q + (j + 1) := ⟨i - q - 1, by omega⟩
      unfold lim
      rw [show 64 * (q + (j + 1)) = 64 * q + (64 + 64 * j) by omega, Nat.pow_add, ← Nat.div_div_eq_div_mul, ← Nat.div_div_eq_div_mul, Nat.add_mul_div_right _ _ hpp]
      rw [Nat.pow_add, show (2 : Nat) ^ 64 = 18446744073709551616 by decide, ← Nat.div_div_eq_div_mul, ← Nat.div_div_eq_div_mul]
      generalize t / 2 ^ (64 * q) = y at *
      rw [Nat.div_eq_of_lt (show y < 18446744073709551616 by omega), Nat.div_eq_of_lt (show y + x * 2 ^ p < 18446744073709551616 by omega)]
theorem digit_or (t x n q p : Nat) (hn : n = 64 * q + p) (hx : x < 256) (hp : p ≤ 56) (h : t < 2 ^ n) :
    bits .or .u64 (lim t q : Int) (IntKind.u64.wrap ((x : Int) * 2 ^ p)) = (lim (t + x * 2 ^ n) q : Int) := by
  rw [digit_lim t x n q p hn hx hp h q, if_pos rfl, wrap_pow]
  have hxp : x * 2 ^ p < 18446744073709551616 := by
    have h1 : x * 2 ^ p ≤ 255 * 2 ^ 56 := Nat.mul_le_mul (by omega) (Nat.pow_le_pow_right (by decide) hp)
    have h2 : (255 : Nat) * 2 ^ 56 < 18446744073709551616 := by decide
    omega
  have hl : lim t q < 2 ^ p := by
    unfold lim
    refine Nat.lt_of_le_of_lt (Nat.mod_le _ _) ?_
    rw [Nat.div_lt_iff_lt_mul (Nat.pow_pos (by omega)), ← Nat.pow_add, Nat.add_comm, ← hn]; exact h
  rw [Nat.mod_eq_of_lt hxp, u64_or_nat _ _ (lim_lt t q) hxp, Nat.or_comm, nat_join p _ _ (Nat.mul_mod_left _ _) hl, Nat.add_comm]
theorem set_digit (t x n q p : Nat) (hq : q < 4) (hn : n = 64 * q + p) (hx : x < 256) (hp : p ≤ 56) (h : t < 2 ^ n) :
    ((#[.int .u64 (lim t 0 : Int), .int .u64 (lim t 1 : Int), .int .u64 (lim t 2 : Int), .int .u64 (lim t 3 : Int)] : Array Value)).setIfInBounds q (.int .u64 (bits .or .u64 (lim t q : Int) (IntKind.u64.wrap ((x : Int) * 2 ^ p)))) = (#[.int .u64 (lim (t + x * 2 ^ n) 0 : Int), .int .u64 (lim (t + x * 2 ^ n) 1 : Int), .int .u64 (lim (t + x * 2 ^ n) 2 : Int), .int .u64 (lim (t + x * 2 ^ n) 3 : Int)] : Array Value) := by
  rw [digit_or t x n q p hn hx hp h]
  have hq' : q = 0 ∨ q = 1 ∨ q = 2 ∨ q = 3 := by omega
  have B := digit_lim t x n q p hn hx hp h
  rcases hq' with rfl | rfl | rfl | rfl
  · rw [show lim t 1 = lim (t + x * 2 ^ n) 1 by rw [B 1]; rfl, show lim t 2 = lim (t + x * 2 ^ n) 2 by rw [B 2]; rfl, show lim t 3 = lim (t + x * 2 ^ n) 3 by rw [B 3]; rfl]; rfl
  · rw [show lim t 0 = lim (t + x * 2 ^ n) 0 by rw [B 0]; rfl, show lim t 2 = lim (t + x * 2 ^ n) 2 by rw [B 2]; rfl, show lim t 3 = lim (t + x * 2 ^ n) 3 by rw [B 3]; rfl]; rfl
  · rw [show lim t 0 = lim (t + x * 2 ^ n) 0 by rw [B 0]; rfl, show lim t 1 = lim (t + x * 2 ^ n) 1 by rw [B 1]; rfl, show lim t 3 = lim (t + x * 2 ^ n) 3 by rw [B 3]; rfl]; rfl
  · rw [show lim t 0 = lim (t + x * 2 ^ n) 0 by rw [B 0]; rfl, show lim t 1 = lim (t + x * 2 ^ n) 1 by rw [B 1]; rfl, show lim t 2 = lim (t + x * 2 ^ n) 2 by rw [B 2]; rfl]; rfl
theorem num_take (l : List UInt8) (k : Nat) (h : k < l.length) : num (l.take (k + 1)) = num (l.take k) + (l[k]).toNat * 2 ^ (8 * k) := by
  rw [List.take_succ_eq_append_getElem h, num_snoc, List.length_take, Nat.min_eq_left (by omega), Nat.mul_comm, show (2 : Nat) ^ (8 * k) = 256 ^ k by rw [Nat.pow_mul]]
theorem num_take_lt (l : List UInt8) (k : Nat) (h : k ≤ l.length) : num (l.take k) < 2 ^ (8 * k) := by
  have := num_lt (l.take k)
  rw [List.length_take, Nat.min_eq_left h] at this
  rw [show (2 : Nat) ^ (8 * k) = 256 ^ k by rw [Nat.pow_mul]]; exact this
theorem num_top (l : List UInt8) (h : l.length = 32) : num l < top := by
  have := num_lt l
  rw [h] at this
  rw [top_eq, show (2 : Nat) ^ 256 = 256 ^ 32 by decide +kernel]; exact this
/-- A byte of a limb. -/
theorem low_byte (a k q p : Nat) (hk : 8 * k = 64 * q + p) (hp : p ≤ 56) : ((lim a q : Int) / 2 ^ p) % 256 = ((UInt8.ofNat (a / 256 ^ k)).toNat : Int) := by
  rw [div_pow, UInt8.toNat_ofNat']
  have e : a / 256 ^ k = a / 2 ^ (64 * q) / 2 ^ p := by
    rw [Nat.div_div_eq_div_mul, ← Nat.pow_add, ← hk, show (256 : Nat) ^ k = 2 ^ (8 * k) by rw [Nat.pow_mul]]
  have e2 : lim a q / 2 ^ p % 256 = a / 256 ^ k % 256 := by
    rw [e]
    unfold lim
    generalize a / 2 ^ (64 * q) = y
    have hs := pow_split (p := p) (by omega)
    have h3 : 2 ^ (64 - p) = 256 * 2 ^ (56 - p) := by rw [show 64 - p = 8 + (56 - p) by omega, Nat.pow_add]
    rw [hs, Nat.mul_comm, Nat.mod_mul, Nat.add_mul_div_left _ _ (Nat.pow_pos (by omega)), Nat.div_eq_of_lt (Nat.mod_lt _ (Nat.pow_pos (by omega))), Nat.zero_add, h3, Nat.mod_mul_right_mod]
  omega
end Go.Proofs.YtpgdfboogjapeaaDoor
