/- CONTRACTS OF LAYER 1: the reference's Put and Part; Get of both. -/
import Derived.Test.YtbhoflmdhlchlaaEndsP2
import Derived.Laws.BitsAllLaws
namespace Go.Proofs.Ytbhoflmdhlchlaa
open Go.RowKit
set_option linter.unusedVariables false
set_option linter.unusedSimpArgs false

def getE (L : Nat) (at_ s : Int) : Int := if isSz s = true then cutE L at_ s else 2
def getN (l : List UInt8) (at_ s : Int) : Nat := if isSz s = true then num (cutL l at_ s) else 0

/-- The three ways of Get. -/
theorem get_cases (l : List UInt8) (at_ s : Int) : (isSz s = false ∧ getE l.length at_ s = 2 ∧ getN l at_ s = 0) ∨
    (isSz s = true ∧ (at_ < 0 ∨ (l.length : Int) < at_ ∨ s < 0) ∧ getE l.length at_ s = 2 ∧ getN l at_ s = 0) ∨
    (isSz s = true ∧ (0 ≤ at_ ∧ at_ ≤ l.length ∧ 0 ≤ s ∧ (l.length : Int) - at_ < s) ∧ getE l.length at_ s = 4 ∧ getN l at_ s = 0) ∨
    (∃ i m : Nat, at_ = i ∧ s = m ∧ (m = 1 ∨ m = 2 ∨ m = 4 ∨ m = 8) ∧ isSz s = true ∧ i + m ≤ l.length ∧ getE l.length at_ s = 0 ∧ getN l at_ s = num ((l.drop i).take m)) := by
  rcases hs : isSz s with _ | _
  · exact .inl ⟨rfl, by simp [getE, hs], by simp [getN, hs]⟩
  · have h := isSz_yes hs
    rcases cutE_cases l.length at_ s with ⟨h1, h2⟩ | ⟨h1, h2⟩ | ⟨i, m, rfl, rfl, h1, h2⟩
    · have hL : cutL l at_ s = [] := cutL_bad (by rw [h2]; omega)
      exact .inr (.inl ⟨rfl, h1, by simp [getE, hs, h2], by simp [getN, hL, num]⟩)
    · have hL : cutL l at_ s = [] := cutL_bad (by rw [h2]; omega)
      exact .inr (.inr (.inl ⟨rfl, h1, by simp [getE, hs, h2], by simp [getN, hL, num]⟩))
    · exact .inr (.inr (.inr ⟨i, m, rfl, rfl, by omega, rfl, h1, by simp [getE, hs, h2], by simp [getN, hs, cutL_ok h1]⟩))

theorem pow256_le {j : Nat} (h : j ≤ 8) : 256 ^ j ≤ 18446744073709551616 := by
  have : 256 ^ j ≤ 256 ^ 8 := Nat.pow_le_pow_right (by omega) h
  omega
theorem num_lt64 {L : List UInt8} (h : L.length ≤ 8) : num L < 18446744073709551616 := Nat.lt_of_lt_of_le (num_lt L) (pow256_le h)

theorem get_step (L : List UInt8) (k : Nat) (hk : k < L.length) (h8 : L.length ≤ 8) :
    bits .or .u64 ((num (L.take k) : Nat) : Int) (IntKind.u64.wrap (IntKind.u64.wrap (L[k].toNat : Int) * 2 ^ (8 * k))) = ((num (L.take (k + 1)) : Nat) : Int) := by
  have hx := L[k].toNat_lt
  have hl : (L.take k).length = k := by simp; omega
  have hn : num (L.take k) < 256 ^ k := by have := num_lt (L.take k); rwa [hl] at this
  have hp : 256 ^ (k + 1) ≤ 18446744073709551616 := pow256_le (by omega)
  have hp' : 256 ^ k * 256 ≤ 18446744073709551616 := by rwa [Nat.pow_succ] at hp
  have hxk : L[k].toNat * 256 ^ k < 18446744073709551616 := by
    have : L[k].toNat * 256 ^ k ≤ 255 * 256 ^ k := Nat.mul_le_mul_right _ (by omega)
    omega
  have e2 : (2 : Int) ^ (8 * k) = ((256 ^ k : Nat) : Int) := by rw [show (256 : Nat) ^ k = 2 ^ (8 * k) by rw [Nat.pow_mul]]; simp
  have e3 : IntKind.u64.wrap (IntKind.u64.wrap (L[k].toNat : Int) * 2 ^ (8 * k)) = ((L[k].toNat * 256 ^ k : Nat) : Int) := by
    have h1 : IntKind.u64.wrap (L[k].toNat : Int) = (L[k].toNat : Int) := by rw [IntKind.wrap_u64]; omega
    rw [h1, e2, ← Int.natCast_mul, IntKind.wrap_u64]
    omega
  rw [e3, u64_or_nat _ _ (by omega) hxk, or_num _ _ _ hn, List.take_succ_eq_append_getElem hk, num_snoc, hl]

set_option maxHeartbeats 400000 in
theorem get_any (v : Value) (l : List UInt8) (at_ s : Int) (w : World) (h : Rd w v l) :
    Calls Try.prog 68 #[v, .int .i64 at_, .int .i64 s] w fun e w' => e = .returned (.tuple #[.int .u64 (getN l at_ s : Int), .int .i64 (getE l.length at_ s)]) ∧ w = w' := by
  rcases get_cases l at_ s with ⟨h1, h2, h3⟩ | ⟨h1, h4, h2, h3⟩ | ⟨h1, h4, h2, h3⟩ | ⟨i, m, rfl, rfl, hm, h1, h4, h2, h3⟩
  · rw [h2, h3]
    clear h2 h3
    go_enter Try.func68, Try.ntmps68
    go_wp2_with fail
    refine (isSize_any s w).mono ?_
    rintro e w' ⟨rfl, rfl⟩
    go_wp2
    go_ret2
    exact ⟨rfl, rfl⟩
  · rw [h2, h3]
    clear h2 h3
    go_enter Try.func68, Try.ntmps68
    go_wp2_with fail
    refine (isSize_any s w).mono ?_
    rintro e w' ⟨rfl, rfl⟩
    go_wp2_with fail
    refine (piece_arg v l at_ s w h h4).mono ?_
    rintro e w' ⟨rfl, rfl⟩
    go_wp2
    go_ret2
    exact ⟨rfl, rfl⟩
  · rw [h2, h3]
    clear h2 h3
    go_enter Try.func68, Try.ntmps68
    go_wp2_with fail
    refine (isSize_any s w).mono ?_
    rintro e w' ⟨rfl, rfl⟩
    go_wp2_with fail
    refine (piece_short v l at_ s w h h4).mono ?_
    rintro e w' ⟨rfl, rfl⟩
    go_wp2
    go_ret2
    exact ⟨rfl, rfl⟩
  · have HP := Lib.hid (piece_ok v l i m w h h4)
    have HL := cutL_len h4
    rw [h2, h3]
    clear h2 h3
    generalize (l.drop i).take m = L at *
    have HL8 : L.length ≤ 8 := by omega
    have HLM := Lib.hid HL
    clear HL
    go_enter Try.func68, Try.ntmps68
    go_wp2_with fail
    refine (isSize_any m w).mono ?_
    rintro e w' ⟨rfl, rfl⟩
    go_wp2_with fail
    refine HP.out.mono ?_
    rintro e w' ⟨v', rfl, hv, rfl⟩
    obtain ⟨A, c, rfl, hc, hmx, ha⟩ := hv
    go_wp2
    go_loop [10, 28] (fun u j => ∃ k : Nat, k ≤ L.length ∧ j = .int .i64 k ∧ u = .int .u64 ((num (L.take k) : Nat) : Int)) (fun _ j => L.length - (intOf j).toNat)
    case atStart => exact ⟨0, by omega, rfl, rfl⟩
    case round =>
      obtain ⟨k, hk, rfl, rfl⟩ := hrel
      by_cases hlt : k < L.length
      · obtain ⟨b, o, rfl, hb, hcc⟩ := ha (by omega)
        have g := hcc k hlt
        clear hcc ha
        have hs64 : 8 * (k : Int) ≤ 64 := by omega
        have hs0 : 0 ≤ 8 * (k : Int) := by omega
        have HS := Lib.hid (get_step L k hlt HL8)
        go_wp2
        go_round
        case rel => exact ⟨k + 1, by omega, by go_num, by rw [HS.out]⟩
        case measure => simp [intOf]; omega
      · obtain rfl : k = L.length := by omega
        go_wp2
        go_ret2
        exact ⟨rfl, rfl⟩

theorem rget_step (L : List UInt8) (k : Nat) (hk : k < L.length) (h8 : L.length ≤ 8) :
    num (L.drop k) = L[k].toNat + 256 * num (L.drop (k + 1)) ∧ num (L.drop (k + 1)) < 72057594037927936 := by
  refine ⟨by rw [List.drop_eq_getElem_cons hk]; rfl, ?_⟩
  have h := num_lt (L.drop (k + 1))
  have h2 : 256 ^ (L.drop (k + 1)).length ≤ 256 ^ 7 := Nat.pow_le_pow_right (by omega) (by simp; omega)
  omega

theorem rget_val (L : List UInt8) (k : Nat) (hk : k < L.length) (h8 : L.length ≤ 8) (q : Nat) (hq : q = num (L.drop (k + 1))) :
    IntKind.u64.wrap (256 * (q : Int) + IntKind.u64.wrap (L[k].toNat : Int)) = ((num (L.drop k) : Nat) : Int) := by
  obtain ⟨h1, h2⟩ := rget_step L k hk h8
  have hx := L[k].toNat_lt
  rw [h1, ← hq, IntKind.wrap_u64, IntKind.wrap_u64]
  omega

end Go.Proofs.Ytbhoflmdhlchlaa
