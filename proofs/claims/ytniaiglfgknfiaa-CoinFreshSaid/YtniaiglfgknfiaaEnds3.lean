/- CONTRACTS OF LAYER 1: the reference's Put and Part; Get of both. -/
import Derived.Test.YtniaiglfgknfiaaEnds2
import Derived.Laws.BitsAllLaws
namespace Go.Proofs.Ytniaiglfgknfiaa
open Go.RowKit

set_option maxHeartbeats 400000 in
theorem refPut_any (n : Nat) (s : Int) (w : World) (hn : (n : Int) ≤ 18446744073709551615) :
    Calls Try.prog 53 #[.int .u64 (n : Int), .int .i64 s] w fun e w' => ∃ v', e = .returned (.tuple #[v', .int .i64 (putE n s)]) ∧ Own w.heap.size w' v' (putL n s) ∧ Nx w w' := by
  rcases part_of_put n s with ⟨h1, h2, h3⟩ | ⟨k, rfl, hk, h1, ⟨h2, h3, h4⟩ | ⟨h2, h3, h4⟩⟩
  · rw [h2, h3]
    clear h2 h3
    go_enter Try.func53, Try.ntmps53
    go_wp2_with fail
    refine (refSize_any s w).mono ?_
    rintro e w' ⟨rfl, rfl⟩
    go_wp2
    go_ret2
    exact ⟨_, rfl, Own.nil _ _, Nx.refl _⟩
  · rw [h3, h4]
    clear h3 h4
    have ht : ((n : Int) / 2 ^ (8 * k) != 0) = false := by simpa using (shr_zero n k).2 h2
    by_cases h8 : (k : Int) < 8
    all_goals
      go_enter Try.func53, Try.ntmps53
      go_wp2_with fail
      refine (refSize_any k w).mono ?_
      rintro e w' ⟨rfl, rfl⟩
      have hs64 : 8 * (k : Int) ≤ 64 := by omega
      have hs0 : 0 ≤ 8 * (k : Int) := by omega
      go_wp2_with fail
      refine (refLow_any n k w hn (by omega)).mono ?_
      rintro e w' ⟨v', rfl, hown, hb⟩
      go_wp2
      go_ret2
      exact ⟨_, rfl, hown, hb⟩
  · rw [h3, h4]
    clear h3 h4
    have ht : ((n : Int) / 2 ^ (8 * k) != 0) = true := by
      have := mt (shr_zero n k).1 h2
      simpa using this
    have h8 : (k : Int) < 8 := by
      rcases hk with rfl | rfl | rfl | rfl
      · omega
      · omega
      · omega
      · exact absurd (show n < 256 ^ 8 by omega) h2
    clear h2
    go_enter Try.func53, Try.ntmps53
    go_wp2_with fail
    refine (refSize_any k w).mono ?_
    rintro e w' ⟨rfl, rfl⟩
    have hs64 : 8 * (k : Int) ≤ 64 := by omega
    have hs0 : 0 ≤ 8 * (k : Int) := by omega
    go_wp2
    go_ret2
    exact ⟨_, rfl, Own.nil _ _, Nx.refl _⟩

set_option maxHeartbeats 400000 in
theorem refPart_any (v : Value) (l : List UInt8) (at_ n : Int) (w : World) (h : Rd w v l) (hr : l.length ≤ 140737488355328) :
    Calls Try.prog 42 #[v, .int .i64 at_, .int .i64 n] w fun e w' => ∃ v', e = .returned (.tuple #[v', .int .i64 (cutE l.length at_ n)]) ∧ Own w.heap.size w' v' (cutL l at_ n) ∧ Nx w w' := by
  have hrd := h
  obtain ⟨A, c, rfl, hc, hm, ha⟩ := h
  unfold maxLen at hm
  rcases cutE_cases l.length at_ n with ⟨h1, h2⟩ | ⟨h1, h2⟩ | ⟨i, m, rfl, rfl, h1, h2⟩
  · have hL : cutL l at_ n = [] := cutL_bad (by rw [h2]; omega)
    rw [h2, hL]
    clear h2 hL
    by_cases h1a : at_ < 0
    · go_enter Try.func42, Try.ntmps42
      go_wp2
      go_ret2
      exact ⟨_, rfl, Own.nil _ _, Nx.refl _⟩
    · by_cases h1b : (l.length : Int) < at_
      · go_enter Try.func42, Try.ntmps42
        go_wp2
        go_ret2
        exact ⟨_, rfl, Own.nil _ _, Nx.refl _⟩
      · have h1c : n < 0 := by omega
        go_enter Try.func42, Try.ntmps42
        go_wp2
        go_ret2
        exact ⟨_, rfl, Own.nil _ _, Nx.refl _⟩
  · have hL : cutL l at_ n = [] := cutL_bad (by rw [h2]; omega)
    rw [h2, hL]
    clear h2 hL
    obtain ⟨h3, h4, h5, h6⟩ := h1
    go_enter Try.func42, Try.ntmps42
    go_wp2
    go_ret2
    exact ⟨_, rfl, Own.nil _ _, Nx.refl _⟩
  · rw [h2, cutL_ok h1]
    clear h2
    have d1 : decide ((i : Int) < 0) = false := by simp
    have d2 : decide (l.length < i) = false := by simp; omega
    have d3 : decide ((m : Int) < 0) = false := by simp
    have d4 : decide ((l.length : Int) - (i : Int) < (m : Int)) = false := by simp; omega
    go_enter Try.func42, Try.ntmps42
    go_wp2
    go_loopw [8, 9] (fun u j wr => ∃ k : Nat, k ≤ m ∧ j = .int .i64 k ∧ Own w.heap.size wr u ((l.drop i).take k) ∧ Nx w wr) (fun _ j _ => m - (intOf j).toNat)
    case atStart => exact ⟨0, by omega, rfl, by simpa using Own.nil _ _, Nx.refl _⟩
    case round =>
      obtain ⟨k, hk, rfl, hown, hb⟩ := hrel
      by_cases hlt : k < m
      · obtain ⟨A, c, hv, _, _, ha'⟩ := hrd.nx hb
        obtain ⟨b, o, hA, hbb, hcc⟩ := ha' (by omega)
        simp at hv
        obtain ⟨rfl, rfl⟩ := hv
        subst hA
        have g := hcc (i + k) (by omega)
        clear hcc ha' ha
        have hik : (i : Int) + (k : Int) < (l.length : Int) := by omega
        have hik0 : (0 : Int) ≤ (i : Int) + (k : Int) := by omega
        have htn : ((i : Int) + (k : Int)).toNat = i + k := by omega
        go_wp2_with (at_builtin; refine wpList_app rfl (.tmp 33) (.tmp 40) _ rfl Try.underlying29 info_u8 w.heap.size _ (.slice (some ⟨wr.heap.size, 0, none⟩) 1 1) _ [l[i + k]] rfl rfl (hown.alloc _) (Rd.one _ _ _ _ ?c1) ?c2 ?c3 ?_)
        case c1 => rfl
        case c2 => simp; omega
        case c3 => have := hb.size; simp; omega
        intro v' w' hown' hb' _
        go_wp2
        go_roundw
        case rel => exact ⟨k + 1, by omega, by go_num, by rw [take_drop_snoc l i k (by omega)]; exact hown', (hb.alloc _).app hb'⟩
        case measure => simp [intOf]; omega
      · obtain rfl : k = m := by omega
        go_wp2
        go_ret2
        exact ⟨_, rfl, hown, hb⟩

def getE (L : Nat) (at_ s : Int) : Int := if isSz s = true then cutE L at_ s else 2
def getN (l : List UInt8) (at_ s : Int) : Nat := if isSz s = true then num (cutL l at_ s) else 0

/-- The three ways of Get. -/
theorem get_cases (l : List UInt8) (at_ s : Int) : (isSz s = false ∧ getE l.length at_ s = 2 ∧ getN l at_ s = 0) ∨
    (isSz s = true ∧ (at_ < 0 ∨ (l.length : Int) < at_ ∨ s < 0) ∧ getE l.length at_ s = 2 ∧ getN l at_ s = 0) ∨
    (isSz s = true ∧ (0 ≤ at_ ∧ at_ ≤ l.length ∧ 0 ≤ s ∧ (l.length : Int) - at_ < s) ∧ getE l.length at_ s = 4 ∧ getN l at_ s = 0) ∨
    (∃ i m : Nat, at_ = i ∧ s = m ∧ (m = 1 ∨ m = 2 ∨ m = 4 ∨ m = 8) ∧ isSz s = true ∧ i + m ≤ l.length ∧ getE l.length at_ s = 0 ∧ getN l at_ s = num ((l.drop i).take m)) := by
  rcases hs : isSz s with _ | _
  · exact .inl ⟨rfl, by simp [getE, hs], by simp [getN, hs]⟩
  · have h := isSz_yes hs
    rcases cutE_cases l.length at_ s with ⟨h1, h2⟩ | ⟨h1, h2⟩ | ⟨i, m, rfl, rfl, h1, h2⟩
    · have hL : cutL l at_ s = [] := cutL_bad (by rw [h2]; omega)
      exact .inr (.inl ⟨rfl, h1, by simp [getE, hs, h2], by simp [getN, hL, num]⟩)
    · have hL : cutL l at_ s = [] := cutL_bad (by rw [h2]; omega)
      exact .inr (.inr (.inl ⟨rfl, h1, by simp [getE, hs, h2], by simp [getN, hL, num]⟩))
    · exact .inr (.inr (.inr ⟨i, m, rfl, rfl, by omega, rfl, h1, by simp [getE, hs, h2], by simp [getN, hs, cutL_ok h1]⟩))

theorem pow256_le {j : Nat} (h : j ≤ 8) : 256 ^ j ≤ 18446744073709551616 := by
  have : 256 ^ j ≤ 256 ^ 8 := Nat.pow_le_pow_right (by omega) h
  omega
theorem num_lt64 {L : List UInt8} (h : L.length ≤ 8) : num L < 18446744073709551616 := Nat.lt_of_lt_of_le (num_lt L) (pow256_le h)

theorem get_step (L : List UInt8) (k : Nat) (hk : k < L.length) (h8 : L.length ≤ 8) :
    bits .or .u64 ((num (L.take k) : Nat) : Int) (IntKind.u64.wrap (IntKind.u64.wrap (L[k].toNat : Int) * 2 ^ (8 * k))) = ((num (L.take (k + 1)) : Nat) : Int) := by
  have hx := L[k].toNat_lt
  have hl : (L.take k).length = k := by simp; omega
  have hn : num (L.take k) < 256 ^ k := by have := num_lt (L.take k); rwa [hl] at this
  have hp : 256 ^ (k + 1) ≤ 18446744073709551616 := pow256_le (by omega)
  have hp' : 256 ^ k * 256 ≤ 18446744073709551616 := by rwa [Nat.pow_succ] at hp
  have hxk : L[k].toNat * 256 ^ k < 18446744073709551616 := by
    have : L[k].toNat * 256 ^ k ≤ 255 * 256 ^ k := Nat.mul_le_mul_right _ (by omega)
    omega
  have e2 : (2 : Int) ^ (8 * k) = ((256 ^ k : Nat) : Int) := by rw [show (256 : Nat) ^ k = 2 ^ (8 * k) by rw [Nat.pow_mul]]; simp
  have e3 : IntKind.u64.wrap (IntKind.u64.wrap (L[k].toNat : Int) * 2 ^ (8 * k)) = ((L[k].toNat * 256 ^ k : Nat) : Int) := by
    have h1 : IntKind.u64.wrap (L[k].toNat : Int) = (L[k].toNat : Int) := by rw [IntKind.wrap_u64]; omega
    rw [h1, e2, ← Int.natCast_mul, IntKind.wrap_u64]
    omega
  rw [e3, u64_or_nat _ _ (by omega) hxk, or_num _ _ _ hn, List.take_succ_eq_append_getElem hk, num_snoc, hl]

set_option maxHeartbeats 400000 in
theorem get_any (v : Value) (l : List UInt8) (at_ s : Int) (w : World) (h : Rd w v l) :
    Calls Try.prog 41 #[v, .int .i64 at_, .int .i64 s] w fun e w' => e = .returned (.tuple #[.int .u64 (getN l at_ s : Int), .int .i64 (getE l.length at_ s)]) ∧ w = w' := by
  rcases get_cases l at_ s with ⟨h1, h2, h3⟩ | ⟨h1, h4, h2, h3⟩ | ⟨h1, h4, h2, h3⟩ | ⟨i, m, rfl, rfl, hm, h1, h4, h2, h3⟩
  · rw [h2, h3]
    clear h2 h3
    go_enter Try.func41, Try.ntmps41
    go_wp2_with fail
    refine (isSize_any s w).mono ?_
    rintro e w' ⟨rfl, rfl⟩
    go_wp2
    go_ret2
    exact ⟨rfl, rfl⟩
  · rw [h2, h3]
    clear h2 h3
    go_enter Try.func41, Try.ntmps41
    go_wp2_with fail
    refine (isSize_any s w).mono ?_
    rintro e w' ⟨rfl, rfl⟩
    go_wp2_with fail
    refine (piece_arg v l at_ s w h h4).mono ?_
    rintro e w' ⟨rfl, rfl⟩
    go_wp2
    go_ret2
    exact ⟨rfl, rfl⟩
  · rw [h2, h3]
    clear h2 h3
    go_enter Try.func41, Try.ntmps41
    go_wp2_with fail
    refine (isSize_any s w).mono ?_
    rintro e w' ⟨rfl, rfl⟩
    go_wp2_with fail
    refine (piece_short v l at_ s w h h4).mono ?_
    rintro e w' ⟨rfl, rfl⟩
    go_wp2
    go_ret2
    exact ⟨rfl, rfl⟩
  · have HP := Lib.hid (piece_ok v l i m w h h4)
    have HL := cutL_len h4
    rw [h2, h3]
    clear h2 h3
    generalize (l.drop i).take m = L at *
    have HL8 : L.length ≤ 8 := by omega
    have HLM := Lib.hid HL
    clear HL
    go_enter Try.func41, Try.ntmps41
    go_wp2_with fail
    refine (isSize_any m w).mono ?_
    rintro e w' ⟨rfl, rfl⟩
    go_wp2_with fail
    refine HP.out.mono ?_
    rintro e w' ⟨v', rfl, hv, rfl⟩
    obtain ⟨A, c, rfl, hc, hmx, ha⟩ := hv
    go_wp2
    go_loop [10, 28] (fun u j => ∃ k : Nat, k ≤ L.length ∧ j = .int .i64 k ∧ u = .int .u64 ((num (L.take k) : Nat) : Int)) (fun _ j => L.length - (intOf j).toNat)
    case atStart => exact ⟨0, by omega, rfl, rfl⟩
    case round =>
      obtain ⟨k, hk, rfl, rfl⟩ := hrel
      by_cases hlt : k < L.length
      · obtain ⟨b, o, rfl, hb, hcc⟩ := ha (by omega)
        have g := hcc k hlt
        clear hcc ha
        have hs64 : 8 * (k : Int) ≤ 64 := by omega
        have hs0 : 0 ≤ 8 * (k : Int) := by omega
        have HS := Lib.hid (get_step L k hlt HL8)
        go_wp2
        go_round
        case rel => exact ⟨k + 1, by omega, by go_num, by rw [HS.out]⟩
        case measure => simp [intOf]; omega
      · obtain rfl : k = L.length := by omega
        go_wp2
        go_ret2
        exact ⟨rfl, rfl⟩

theorem rget_step (L : List UInt8) (k : Nat) (hk : k < L.length) (h8 : L.length ≤ 8) :
    num (L.drop k) = L[k].toNat + 256 * num (L.drop (k + 1)) ∧ num (L.drop (k + 1)) < 72057594037927936 := by
  refine ⟨by rw [List.drop_eq_getElem_cons hk]; rfl, ?_⟩
  have h := num_lt (L.drop (k + 1))
  have h2 : 256 ^ (L.drop (k + 1)).length ≤ 256 ^ 7 := Nat.pow_le_pow_right (by omega) (by simp; omega)
  omega

theorem rget_val (L : List UInt8) (k : Nat) (hk : k < L.length) (h8 : L.length ≤ 8) (q : Nat) (hq : q = num (L.drop (k + 1))) :
    IntKind.u64.wrap (256 * (q : Int) + IntKind.u64.wrap (L[k].toNat : Int)) = ((num (L.drop k) : Nat) : Int) := by
  obtain ⟨h1, h2⟩ := rget_step L k hk h8
  have hx := L[k].toNat_lt
  rw [h1, ← hq, IntKind.wrap_u64, IntKind.wrap_u64]
  omega

set_option maxHeartbeats 400000 in
theorem refGet_any (v : Value) (l : List UInt8) (at_ s : Int) (w : World) (h : Rd w v l) (hr : l.length ≤ 140737488355328) :
    Calls Try.prog 43 #[v, .int .i64 at_, .int .i64 s] w fun e w' => e = .returned (.tuple #[.int .u64 (getN l at_ s : Int), .int .i64 (getE l.length at_ s)]) ∧ Nx w w' := by
  rcases hs : isSz s with _ | _
  · rw [show getE l.length at_ s = 2 by simp [getE, hs], show getN l at_ s = 0 by simp [getN, hs]]
    go_enter Try.func43, Try.ntmps43
    go_wp2_with fail
    refine (refSize_any s w).mono ?_
    rintro e w' ⟨rfl, rfl⟩
    go_wp2
    go_ret2
    exact ⟨rfl, Nx.refl _⟩
  · rw [show getE l.length at_ s = cutE l.length at_ s by simp [getE, hs], show getN l at_ s = num (cutL l at_ s) by simp [getN, hs]]
    have HL8 : (cutL l at_ s).length ≤ 8 := by
      unfold cutL
      have := isSz_yes hs
      split
      · simp; omega
      · simp
    have HP := Lib.hid (refPart_any v l at_ s w h hr)
    generalize cutL l at_ s = L at *
    generalize cutE l.length at_ s = E at *
    go_enter Try.func43, Try.ntmps43
    go_wp2_with fail
    refine (refSize_any s w).mono ?_
    rintro e w' ⟨rfl, rfl⟩
    go_wp2_with fail
    refine HP.out.mono ?_
    rintro e w1 ⟨v', rfl, hown, hb⟩
    obtain ⟨A, c, rfl, hc, hmx, ha⟩ := hown.rd
    unfold maxLen at hmx
    go_wp2
    go_loop [10, 11] (fun u j => ∃ k : Nat, k ≤ L.length ∧ j = .int .i64 ((k : Int) - 1) ∧ u = .int .u64 ((num (L.drop k) : Nat) : Int)) (fun _ j => (intOf j + 1).toNat)
    case atStart => exact ⟨L.length, Nat.le_refl _, rfl, by simp [num]⟩
    case round =>
      obtain ⟨k, hk, rfl, rfl⟩ := hrel
      by_cases hlt : 0 < k
      · obtain ⟨b, o, rfl, hbb, hcc⟩ := ha (by omega)
        have g := hcc (k - 1) (by omega)
        have HS := Lib.hid (rget_val L (k - 1) (by omega) HL8 (num (L.drop k)) (by rw [show k - 1 + 1 = k by omega]))
        have hq2 : ((num (L.drop k) : Nat) : Int) ≤ 72057594037927935 := by
          have := (rget_step L (k - 1) (by omega) HL8).2
          rw [show k - 1 + 1 = k by omega] at this
          omega
        clear hcc ha
        generalize num (L.drop k) = q at *
        have htn : ((k : Int) - 1).toNat = k - 1 := by omega
        have hk1 : (0 : Int) ≤ (k : Int) - 1 := by omega
        have hk2 : (k : Int) - 1 < (L.length : Int) := by omega
        go_wp2
        go_round
        case rel => exact ⟨k - 1, by omega, by rw [show ((k - 1 : Nat) : Int) = (k : Int) - 1 by omega], by rw [HS.out]⟩
        case measure => simp [intOf]; omega
      · obtain rfl : k = 0 := by omega
        go_wp2
        go_ret2
        exact ⟨rfl, hb⟩
end Go.Proofs.Ytniaiglfgknfiaa
