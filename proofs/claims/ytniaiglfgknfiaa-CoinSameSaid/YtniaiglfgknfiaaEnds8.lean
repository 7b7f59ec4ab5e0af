/- LAYER 1: plain facts on counts and rows: what is put is got, and in one way. -/
import Derived.Test.YtniaiglfgknfiaaEnds7
namespace Go.Proofs.Ytniaiglfgknfiaa

theorem drop_take_mid (pre x rest : List UInt8) : ((pre ++ x ++ rest).drop pre.length).take x.length = x := by
  rw [List.append_assoc, List.drop_left', List.take_left']
  · rfl
  · rfl

theorem getE_mid (pre x rest : List UInt8) (i m : Nat) (hi : i = pre.length) (hm : m = x.length) (hs : isSz (m : Int) = true) : getE (pre ++ x ++ rest).length (i : Int) (m : Int) = 0 := by
  subst hi
  subst hm
  unfold getE
  rw [if_pos hs, cutE_ok (by simp)]
theorem getN_mid (pre x rest : List UInt8) (i m : Nat) (hi : i = pre.length) (hm : m = x.length) (hs : isSz (m : Int) = true) : getN (pre ++ x ++ rest) (i : Int) (m : Int) = num x := by
  subst hi
  subst hm
  unfold getN
  rw [if_pos hs, cutL_ok (by simp), drop_take_mid]

theorem num_one (x : UInt8) : num [x] = x.toNat := by simp [num]

theorem low_behind {n : Nat} (hn : (n : Int) ≤ 18446744073709551615) : num (low n (behind n)) = n ∨ behind n = 0 := by
  rcases behind_cases n with ⟨_, h⟩ | ⟨_, h1, h⟩ | ⟨_, h1, h⟩ | ⟨_, h⟩
  · exact .inr h
  · rw [h]; exact .inl (num_low _ _ (by omega))
  · rw [h]; exact .inl (num_low _ _ (by omega))
  · rw [h]; exact .inl (num_low _ _ (by omega))

/-- A count is got where it stands. -/
theorem gc_count (pre rest : List UInt8) (n : Nat) (hn : (n : Int) ≤ 18446744073709551615) :
    gc (pre ++ countL n ++ rest) (pre.length : Int) = (n, (pre.length : Int) + ((countL n).length : Int), 0) := by
  by_cases h0 : behind n = 0
  · have hlt : n < 253 := by
      rcases behind_cases n with ⟨h1, _⟩ | ⟨_, _, h⟩ | ⟨_, _, h⟩ | ⟨_, h⟩ <;> omega
    have hc : countL n = [UInt8.ofNat n] := by unfold countL; rw [if_pos h0]
    rw [hc]
    have hE := getE_mid pre [UInt8.ofNat n] rest pre.length 1 rfl rfl (by decide)
    have hN := getN_mid pre [UInt8.ofNat n] rest pre.length 1 rfl rfl (by decide)
    have hv : num [UInt8.ofNat n] = n := by rw [num_one, UInt8.toNat_ofNat']; omega
    rw [hv] at hN
    unfold gc
    rw [if_neg (by simpa using hE), show getN (pre ++ [UInt8.ofNat n] ++ rest) (pre.length : Int) 1 = n from hN, if_pos hlt]
    rfl
  · have hb := (low_behind hn).resolve_right h0
    have hc : countL n = mark (behind n) :: low n (behind n) := by unfold countL; rw [if_neg h0]
    have hb3 : behind n = 2 ∨ behind n = 4 ∨ behind n = 8 := by
      rcases behind_cases n with ⟨_, h⟩ | ⟨_, _, h⟩ | ⟨_, _, h⟩ | ⟨_, h⟩ <;> omega
    have hE := getE_mid pre [mark (behind n)] (low n (behind n) ++ rest) pre.length 1 rfl rfl (by decide)
    have hN := getN_mid pre [mark (behind n)] (low n (behind n) ++ rest) pre.length 1 rfl rfl (by decide)
    have hsz : isSz ((behind n : Nat) : Int) = true := by rcases hb3 with h | h | h <;> rw [h] <;> decide
    have hE2 := getE_mid (pre ++ [mark (behind n)]) (low n (behind n)) rest (pre.length + 1) (behind n) (by simp) (by simp) hsz
    have hN2 := getN_mid (pre ++ [mark (behind n)]) (low n (behind n)) rest (pre.length + 1) (behind n) (by simp) (by simp) hsz
    have e1 : pre ++ [mark (behind n)] ++ (low n (behind n) ++ rest) = pre ++ countL n ++ rest := by rw [hc]; simp
    have e2 : pre ++ [mark (behind n)] ++ low n (behind n) ++ rest = pre ++ countL n ++ rest := by rw [hc]; simp
    rw [e1] at hE hN
    rw [e2] at hE2 hN2
    rw [hb] at hN2
    have hmk : num [mark (behind n)] ≥ 253 ∧ csz (num [mark (behind n)]) = behind n := by
      rcases hb3 with h | h | h <;> rw [h] <;> decide
    have hN' : getN (pre ++ countL n ++ rest) (pre.length : Int) 1 = num [mark (behind n)] := hN
    have hE2' : getE (pre ++ countL n ++ rest).length ((pre.length : Int) + 1) (behind n : Nat) = 0 := by simpa using hE2
    have hN2' : getN (pre ++ countL n ++ rest) ((pre.length : Int) + 1) (behind n : Nat) = n := by simpa using hN2
    unfold gc
    rw [if_neg (by simpa using hE), hN', if_neg (by omega), hmk.2, if_neg (by simpa using hE2'), hN2', if_neg (by simp), countL_length]
    simp
    omega

/-- No count begins another one. -/
theorem count_one {n m : Nat} {r : List UInt8} (hn : (n : Int) ≤ 18446744073709551615) (hm : (m : Int) ≤ 18446744073709551615) (h : countL m = countL n ++ r) : n = m := by
  have h1 := gc_count [] r n hn
  have h2 := gc_count [] [] m hm
  simp only [List.nil_append, List.append_nil] at h1 h2
  rw [← h, h2] at h1
  exact (Prod.mk.injEq .. ▸ h1).1.symm

/-- What is got as a count is the count of what is got. -/
theorem count_got {l : List UInt8} {n : Nat} {p : Int} (h : gc l 0 = (n, p, 0)) : 1 ≤ p ∧ p ≤ (l.length : Int) ∧ countL n = l.take p.toNat ∧ p.toNat ≤ l.length := by
  rcases gc_cases l 0 with ⟨h1, h2⟩ | ⟨i, hi, h0, h1, hn, ⟨h2, h3⟩ | ⟨f, s, h2, h4, ⟨h5, h6⟩ | ⟨h5, h7, h6⟩ | ⟨h5, h8, h7, h6⟩⟩⟩
  · rw [h] at h2
    simp only [Prod.mk.injEq] at h2
    omega
  · obtain rfl : i = 0 := by omega
    rw [h] at h3
    simp only [Prod.mk.injEq] at h3
    obtain ⟨rfl, hp, _⟩ := h3
    have hp1 : p = 1 := by omega
    subst hp1
    refine ⟨by omega, by omega, ?_, by omega⟩
    have hx := l[0].toNat_lt
    have hb : behind l[0].toNat = 0 := by unfold behind; rw [if_pos h2]
    unfold countL
    rw [if_pos hb]
    cases l with
    | nil => simp at hi
    | cons x t => simp
  · rw [h] at h6
    simp only [Prod.mk.injEq] at h6
    omega
  · rw [h] at h6
    simp only [Prod.mk.injEq] at h6
    omega
  · obtain rfl : i = 0 := by omega
    rw [h] at h6
    simp only [Prod.mk.injEq] at h6
    obtain ⟨hnn, hp, _⟩ := h6
    have hps : p = ((1 + s : Nat) : Int) := by omega
    subst hps
    have hsz : isSz ((s : Nat) : Int) = true := by rcases h4 with ⟨_, rfl⟩ | ⟨_, rfl⟩ | ⟨_, rfl⟩ <;> decide
    have hN : getN l (0 + 1) (s : Nat) = num ((l.drop 1).take s) := by
      unfold getN
      rw [if_pos hsz]
      have := cutL_ok (l := l) (i := 1) (m := s) (by omega)
      rw [show ((0 : Int) + 1) = ((1 : Nat) : Int) from rfl, this]
    rw [← hnn] at h7
    refine ⟨by omega, by omega, ?_, by simp; omega⟩
    have hl : ((l.drop 1).take s).length = s := by simp; omega
    have hs0 : s ≠ 0 := by omega
    unfold countL
    rw [if_neg (by omega), h7, hnn, hN]
    have hlow : low (num ((l.drop 1).take s)) s = (l.drop 1).take s := by
      have := low_num ((l.drop 1).take s)
      rwa [hl] at this
    rw [hlow]
    cases l with
    | nil => simp at hi
    | cons x t =>
      have hx : x.toNat = f := by simpa using h2
      have hm : mark s = x := by
        apply UInt8.toNat_inj.1
        rw [hx]
        rcases h4 with ⟨rfl, rfl⟩ | ⟨rfl, rfl⟩ | ⟨rfl, rfl⟩ <;> decide
      rw [hm, Int.toNat_natCast, Nat.add_comm]
      simp

/-- A row is got where it stands. -/
theorem gr_row (pre row rest : List UInt8) (hn : (row.length : Int) ≤ 18446744073709551615) :
    gr (pre ++ rowL row ++ rest) (pre.length : Int) (row.length : Int) = (row, (pre.length : Int) + ((rowL row).length : Int), 0) := by
  have h1 := gc_count pre (row ++ rest) row.length hn
  have e1 : pre ++ countL row.length ++ (row ++ rest) = pre ++ rowL row ++ rest := by simp [rowL]
  rw [e1] at h1
  have e2 : pre ++ rowL row ++ rest = (pre ++ countL row.length) ++ row ++ rest := by simp [rowL]
  have hl : (pre ++ countL row.length).length + row.length ≤ (pre ++ rowL row ++ rest).length := by rw [e2]; simp; omega
  have hp : (pre.length : Int) + ((countL row.length).length : Int) = (((pre ++ countL row.length).length : Nat) : Int) := by simp
  unfold gr
  rw [h1]
  simp only []
  rw [if_neg (by simp), if_neg (by omega), hp, cutE_ok hl, if_neg (by simp), cutL_ok hl, e2, drop_take_mid]
  simp [rowL]
  omega
end Go.Proofs.Ytniaiglfgknfiaa
