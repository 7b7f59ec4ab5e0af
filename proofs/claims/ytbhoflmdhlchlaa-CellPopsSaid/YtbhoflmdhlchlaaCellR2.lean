/- THE DOCUMENT'S LAYER 12: worth, Bytes, Number. -/
import Derived.Test.YtbhoflmdhlchlaaCell4
import Derived.Test.YtbhoflmdhlchlaaCellR1
namespace Go.Proofs.Ytbhoflmdhlchlaa
open Go Go.RowKit
set_option linter.unusedVariables false
set_option linter.unusedSimpArgs false

theorem num_last (l : List UInt8) (h : 0 < l.length) : num l = num (l.take (l.length - 1)) + 256 ^ (l.length - 1) * (l[l.length - 1]'(by omega)).toNat ∧ num (l.take (l.length - 1)) < 256 ^ (l.length - 1) := by
  have h1 : (l.take (l.length - 1)).length = l.length - 1 := by rw [List.length_take]; omega
  refine ⟨?_, by have := num_lt (l.take (l.length - 1)); rwa [h1] at this⟩
  have h2 : l = l.take (l.length - 1) ++ [l[l.length - 1]'(by omega)] := by
    have := List.take_succ_eq_append_getElem (l := l) (i := l.length - 1) (by omega)
    rw [show l.length - 1 + 1 = l.length by omega, List.take_of_length_le (Nat.le_refl _)] at this
    exact this
  conv => lhs; rw [h2]
  rw [num_snoc, h1]
/-- The sign, as the document has it. -/
theorem worth_neg (l : List UInt8) (h0 : 0 < l.length) (h8 : l.length < 8) (hb : 128 ≤ (l[l.length - 1]'(by omega)).toNat) :
    wrap64 (IntKind.u64.wrap ((num l : Int) - IntKind.u64.wrap (2 ^ (8 * l.length)))) = numI l := by
  obtain ⟨h1, h2⟩ := num_last l h0
  have h3 := num8 l (by omega)
  unfold numI wrap64
  simp only [u64_mod]
  generalize (l[l.length - 1]'(by omega)).toNat = b at *
  generalize num (l.take (l.length - 1)) = a at *
  generalize num l = u at *
  rcases len_cases (show l.length ≤ 8 by omega) with e | e | e | e | e | e | e | e | e <;> rw [e] at h1 h2 h3 h0 h8 ⊢ <;> first | omega | (split <;> omega)
theorem worth_pos (l : List UInt8) (h8 : l.length ≤ 8) (hb : ∀ h : 0 < l.length, l.length < 8 → (l[l.length - 1]'(by omega)).toNat < 128) : wrap64 (num l : Int) = numI l := by
  have h3 := num8 l h8
  rcases Nat.eq_zero_or_pos l.length with h0 | h0
  · have : num l = 0 := by rw [h0] at h3; simp at h3; omega
    unfold numI wrap64
    rw [this, h0]; decide
  · obtain ⟨h1, h2⟩ := num_last l h0
    have hb' := hb h0
    have hlt := (l[l.length - 1]'(by omega)).toNat_lt
    unfold numI wrap64
    generalize (l[l.length - 1]'(by omega)).toNat = b at *
    generalize num (l.take (l.length - 1)) = a at *
    generalize num l = u at *
    rcases len_cases h8 with e | e | e | e | e | e | e | e | e <;> rw [e] at h1 h2 h3 h0 hb' ⊢ <;> first | omega | (split <;> omega)
theorem rget_val2 (L : List UInt8) (k : Nat) (hk : k < L.length) (h8 : L.length ≤ 8) (q : Nat) (hq : q = num (L.drop (k + 1))) :
    IntKind.u64.wrap (IntKind.u64.wrap (256 * (q : Int)) + IntKind.u64.wrap (L[k].toNat : Int)) = ((num (L.drop k) : Nat) : Int) := by
  rw [← rget_val L k hk h8 q hq]
  simp only [u64_mod]
  omega
set_option maxRecDepth 100000 in
set_option maxHeartbeats 2000000 in
theorem rworth_any (v : Value) (l : List UInt8) (w : World) (hr : Rd w v l) (h8 : l.length ≤ 8) :
    Calls Try.prog 55 #[v] w fun e w' => e = .returned (.int .i64 (numI l)) ∧ w = w' := by
  obtain ⟨A, c, rfl, hc, hmx, ha⟩ := hr
  have HWN := Lib.hid (worth_neg l)
  have HWP := Lib.hid (worth_pos l h8)
  generalize hN : numI l = N at *
  replace hN := Lib.hid hN
  go_enter Try.func55, Try.ntmps55
  go_wp2_with fail
  go_loop [3, 4] (fun u j => ∃ k : Nat, k ≤ l.length ∧ j = .int .i64 ((k : Int) - 1) ∧ u = .int .u64 ((num (l.drop k) : Nat) : Int)) (fun _ j => (intOf j + 1).toNat)
  case atStart => exact ⟨l.length, Nat.le_refl _, rfl, by rw [List.drop_of_length_le (Nat.le_refl _)]; rfl⟩
  case round =>
    obtain ⟨k, hk, rfl, rfl⟩ := hrel
    by_cases hlt : 0 < k
    · obtain ⟨j, rfl⟩ : ∃ j, k = j + 1 := ⟨k - 1, by omega⟩
      obtain ⟨b, o, rfl, hb, hcc⟩ := ha (by omega)
      have hjl : j < l.length := by omega
      have g := hcc j hjl
      clear hcc ha
      have HS := Lib.hid (rget_val2 l j hjl h8 _ rfl)
      rw [show ((j + 1 : Nat) : Int) - 1 = (j : Int) by omega]
      generalize hq : num (l.drop (j + 1)) = q at *
      replace hq := Lib.hid hq
      have hge : decide ((0 : Int) ≤ (j : Int)) = true := by simp
      go_wp2_with fail
      exact ⟨⟨j, by omega, rfl, by rw [HS.out]⟩, by simp [intOf] <;> omega⟩
    · obtain rfl : k = 0 := by omega
      rw [List.drop_zero]
      rcases Nat.eq_zero_or_pos l.length with h0 | h0
      · have hv := HWP.out (fun h => by omega)
        have h0' : decide ((0 : Int) < (l.length : Int)) = false := decide_eq_false (by omega)
        have h0'' : decide (0 < l.length) = false := decide_eq_false (by omega)
        clear ha h0
        generalize num l = u at *
        go_wp2_with fail
        go_ret
        exact ⟨by rw [← hv]; rfl, rfl⟩
      · obtain ⟨b, o, rfl, hb, hcc⟩ := ha h0
        have g : w.cell? ⟨b, o + (l.length - 1), none⟩ = some (.int .u8 ((l[l.length - 1]'(by omega)).toNat : Int)) := hcc (l.length - 1) (by omega)
        clear hcc ha
        have e1 : (l.length : Int) - 1 = ((l.length - 1 : Nat) : Int) := by omega
        have h0' : decide ((0 : Int) < (l.length : Int)) = true := decide_eq_true (by omega)
        have h0'' : decide (0 < l.length) = true := decide_eq_true (by omega)
        by_cases h7 : l.length < 8
        · have h7' : decide ((l.length : Int) < 8) = true := by simp; omega
          by_cases hbig : 128 ≤ (l[l.length - 1]'(by omega)).toNat
          · have hv := HWN.out h0 h7 hbig
            have hd : decide ((128 : Int) ≤ ((l[l.length - 1]'(by omega)).toNat : Int)) = true := by simp; omega
            have hd2 : decide (128 ≤ (l[l.length - 1]'(by omega)).toNat) = true := by simp; omega
            have hs0 : 0 ≤ 8 * (l.length : Int) := by omega
            have hs64 : 8 * (l.length : Int) ≤ 64 := by omega
            generalize (l[l.length - 1]'(by omega)).toNat = bt at *
            generalize num l = u at *
            clear hbig HWN HWP
            go_wp2_with fail
            go_ret
            exact ⟨by rw [← hv]; rfl, rfl⟩
          · have hv := HWP.out (fun _ _ => by omega)
            have hd : decide ((128 : Int) ≤ ((l[l.length - 1]'(by omega)).toNat : Int)) = false := by simp; omega
            have hd2 : decide (128 ≤ (l[l.length - 1]'(by omega)).toNat) = false := by simp; omega
            generalize (l[l.length - 1]'(by omega)).toNat = bt at *
            generalize num l = u at *
            clear hbig HWN HWP
            go_wp2_with fail
            go_ret
            exact ⟨by rw [← hv]; rfl, rfl⟩
        · have hv := HWP.out (fun _ h => by omega)
          have h7' : decide ((l.length : Int) < 8) = false := by simp; omega
          clear HWN HWP
          generalize num l = u at *
          go_wp2_with fail
          go_ret
          exact ⟨by rw [← hv]; rfl, rfl⟩

set_option maxHeartbeats 1000000 in
theorem rbytes_any (n : Int) (w : World) (hn : -9223372036854775808 ≤ n ∧ n ≤ 9223372036854775807) :
    Calls Try.prog 29 #[.int .i64 n] w fun e w' => ∃ v, e = .returned v ∧ Own w.heap.size w' v (bytesI n) ∧ Nx w w' := by
  obtain ⟨s1, s2, s3⟩ := szI_spec n hn
  have HB : Hid (bytesI n = loI n (szI n)) := Lib.hid rfl
  have HF := Lib.hid s2
  have HG := Lib.hid s3
  have HL : Hid (∀ k, loI n (k + 1) = loI n k ++ [byI n k]) := Lib.hid fun k => loI_succ n k
  have HLL : Hid (∀ k, (loI n k).length = k) := Lib.hid (loI_length n)
  have HNF : Hid (∀ k, k ≤ 8 → (numI (loI n k) == n) = fits n k) := Lib.hid fun k hk => numI_loI n k hk hn
  have HWO : Hid (∀ k v w, k ≤ 8 → Rd w v (loI n k) → Calls Try.prog 55 #[v] w fun e w' => e = .returned (.int .i64 (numI (loI n k))) ∧ w = w') := Lib.hid fun k v w hk h => rworth_any v _ w h (by rw [loI_length]; exact hk)
  have HU : Hid (∀ k, k ≤ 7 → IntKind.u8.wrap (IntKind.u64.wrap n / 2 ^ (8 * k)) = ((byI n k).toNat : Int)) := Lib.hid fun k hk => by
    rw [← byI_val, u8_mod, u64_mod]
    have : k = 0 ∨ k = 1 ∨ k = 2 ∨ k = 3 ∨ k = 4 ∨ k = 5 ∨ k = 6 ∨ k = 7 := by omega
    rcases this with e | e | e | e | e | e | e | e <;> subst e <;> omega
  generalize szI n = S at *
  obtain ⟨n1, n2⟩ := hn
  clear s2 s3
  have N0 := Lib.hid (Nx.refl w)
  go_enter Try.func29, Try.ntmps29
  go_wp2_with fail
  go_loopw [3] (fun b wr => ∃ k : Nat, k ≤ S ∧ Own w.heap.size wr b (loI n k) ∧ Hid (Nx w wr)) (fun b _ => S - (match b with | .slice _ l _ => l | _ => 0))
  case atStart => exact ⟨0, by omega, Own.nil _ _, N0⟩
  case round =>
    clear N0
    obtain ⟨k, hk, hown, HN⟩ := hrel
    have HC := Lib.hid (HWO.out k _ wr (by omega) hown.rd)
    have HEQ := Lib.hid (HNF.out k (by omega))
    have hln := hown.rd
    obtain ⟨A, c, rfl, -, -, -⟩ := hln
    cases hf : fits n k
    · have hk2 : k + 1 ≤ S := by
        by_cases h : k = S
        · rw [h, HF.out] at hf; cases hf
        · omega
      have ht : (numI (loI n k) != n) = true := by rw [bne, HEQ.out, hf]; rfl
      have HUK := Lib.hid (HU.out k (by omega))
      have HLK := Lib.hid (HL.out k)
      have HLE := HLL.out k
      clear hf HF HG HEQ HU HWO HNF
      generalize numI (loI n k) = q at *
      generalize loI n k = l at *
      generalize hl2e : loI n (k + 1) = l2 at *
      replace hl2e := Lib.hid hl2e
      have hlk : l.length ≤ 7 := by omega
      have hu : IntKind.u8.wrap (IntKind.u64.wrap n / 2 ^ (8 * l.length)) = ((byI n k).toNat : Int) := by rw [HLE]; exact HUK.out
      replace HLE := Lib.hid HLE
      have hs0 : 0 ≤ 8 * (l.length : Int) := by omega
      have hs64 : 8 * (l.length : Int) ≤ 64 := by omega
      go_wp2_with fail
      refine (HC.out).mono ?_
      rintro e w1 ⟨rfl, rfl⟩
      go_wp2_with (at_builtin; refine wpList_app rfl (.tmp 8) (.tmp 17) _ rfl Try.underlying23 info_u8b w.heap.size _ (.slice (some ⟨wr.heap.size, 0, none⟩) 1 1) l [byI n k] rfl rfl (hown.alloc _) (Rd.one _ _ _ _ rfl) ?c2 ?c3 ?_)
      case c2 => simp only [List.length_singleton]; omega
      case c3 => have := HN.out.size; simp; omega
      intro v' w' hown' hb' _
      have HNN := Lib.hid ((HN.out.alloc (.cells #[.int .u8 ((byI n k).toNat : Int)] 5)).app hb')
      have HO2 : Hid (Own w.heap.size w' v' l2) := Lib.hid (by rw [HLK.out]; exact hown')
      obtain ⟨A', c', rfl, -⟩ := hown'.rd
      have hl2 : (l ++ [byI n k]).length = l.length + 1 := by simp
      rw [hl2] at HO2 ⊢
      clear hown' hown hb'
      go_wp2
      go_roundw
      case rel => exact ⟨k + 1, by omega, by rw [hl2e.out]; exact HO2.out, HNN⟩
      case measure => have := HLE.out; simp; omega
    · have hk2 : k = S := by
        by_cases h : k < S
        · have := HG.out _ h; rw [hf] at this; cases this
        · omega
      have ht : (numI (loI n k) != n) = false := by rw [bne, HEQ.out, hf]; rfl
      have HO : Hid (Own w.heap.size wr (.slice A (loI n k).length c) (bytesI n)) := Lib.hid (by rw [HB.out, ← hk2]; exact hown)
      clear hf HF HG HEQ hown hk2 HU HWO HNF HL HLL HB
      generalize numI (loI n k) = q at *
      generalize (loI n k).length = ln at *
      go_wp2_with fail
      refine (HC.out).mono ?_
      rintro e w1 ⟨rfl, rfl⟩
      go_wp2_with fail
      go_ret
      exact ⟨_, rfl, HO.out, HN.out⟩
end Go.Proofs.Ytbhoflmdhlchlaa
