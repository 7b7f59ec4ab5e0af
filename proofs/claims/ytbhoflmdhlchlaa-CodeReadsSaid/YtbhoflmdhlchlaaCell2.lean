/- CONTRACTS OF LAYER 12: Bytes. -/
import Derived.Test.YtbhoflmdhlchlaaCellNum
import Derived.Test.YtbhoflmdhlchlaaCell1
import Derived.LoopTactic
namespace Go.Proofs.Ytbhoflmdhlchlaa
open Go Go.RowKit
set_option linter.unusedVariables false
set_option linter.unusedSimpArgs false

theorem u8_mod (x : Int) : IntKind.u8.wrap x = x % 256 := by simp [IntKind.wrap, IntKind.bits, IntKind.signed]
theorem byI_val (n : Int) (i : Nat) : n / 256 ^ i % 256 = ((byI n i).toNat : Int) := by
  unfold byI
  rw [UInt8.toNat_ofNat']
  omega
theorem i8_val (x : Int) : IntKind.i8.wrap x = (x + 128) % 256 - 128 := by
  simp only [IntKind.wrap, IntKind.bits, IntKind.signed]
  simp
  omega
theorem fits_i8 (n : Int) (k : Nat) (hk : k ≤ 7) : fits n (k + 1) = (n / 256 ^ k == IntKind.i8.wrap (n / 256 ^ k)) := by
  rw [i8_val, Bool.eq_iff_iff, beq_iff_eq]
  have : k = 0 ∨ k = 1 ∨ k = 2 ∨ k = 3 ∨ k = 4 ∨ k = 5 ∨ k = 6 ∨ k = 7 := by omega
  rcases this with e | e | e | e | e | e | e | e <;> subst e
  · rw [fits1, decide_eq_true_eq]; omega
  · rw [fits2, decide_eq_true_eq]; omega
  · rw [fits3, decide_eq_true_eq]; omega
  · rw [fits4, decide_eq_true_eq]; omega
  · rw [fits5, decide_eq_true_eq]; omega
  · rw [fits6, decide_eq_true_eq]; omega
  · rw [fits7, decide_eq_true_eq]; omega
  · rw [fits8, decide_eq_true_eq]; omega
theorem div_range (n : Int) (k : Nat) (hk : k ≤ 7) (hn : -9223372036854775808 ≤ n ∧ n ≤ 9223372036854775807) : -9223372036854775808 ≤ n / 256 ^ k ∧ n / 256 ^ k ≤ 9223372036854775807 := by
  have : k = 0 ∨ k = 1 ∨ k = 2 ∨ k = 3 ∨ k = 4 ∨ k = 5 ∨ k = 6 ∨ k = 7 := by omega
  rcases this with e | e | e | e | e | e | e | e <;> subst e <;> omega
theorem div_next (n : Int) (k : Nat) : n / 256 ^ k / 256 = n / 256 ^ (k + 1) := by
  rw [Int.pow_succ, Int.ediv_ediv_of_nonneg]
  exact Int.le_of_lt (Int.pow_pos (by decide))
theorem info_u8b : (Try.prog.info? 5).map (fun i => (i.zero, i.size, i.bytes)) = some (some (.int .u8 0), 1, 1) := by kernel_rfl

set_option maxHeartbeats 1000000 in
theorem cbytes_any (n : Int) (w : World) (hn : -9223372036854775808 ≤ n ∧ n ≤ 9223372036854775807) :
    Calls Try.prog 28 #[.int .i64 n] w fun e w' => ∃ v, e = .returned v ∧ Own w.heap.size w' v (bytesI n) ∧ Nx w w' := by
  obtain ⟨s1, s2, s3⟩ := szI_spec n hn
  by_cases h0 : n = 0
  · subst h0
    rw [show bytesI 0 = [] from rfl]
    clear s1 s2 s3 hn
    go_enter Try.func28, Try.ntmps28
    go_wp2
    go_ret
    exact ⟨_, rfl, Own.nil _ _, Nx.refl _⟩
  · have hs : 1 ≤ szI n := by
      rcases Nat.eq_zero_or_pos (szI n) with h | h
      · rw [h, fits0] at s2; exact absurd (eq_of_beq s2) h0
      · exact h
    have HB : Hid (bytesI n = loI n (szI n)) := Lib.hid rfl
    have HF := Lib.hid s2
    have HG := Lib.hid s3
    have d0 : (n == 0) = false := by simp [h0]
    have HL1 := Lib.hid (byI_val n 0)
    rw [Int.pow_zero, Int.ediv_one] at HL1
    have HL0 : Hid (loI n (0 + 1) = [byI n 0]) := Lib.hid rfl
    have HL : Hid (∀ k, loI n (k + 1 + 1) = loI n (k + 1) ++ [byI n (k + 1)]) := Lib.hid fun k => loI_succ n (k + 1)
    have HLL : Hid (∀ k, (loI n k).length = k) := Lib.hid (loI_length n)
    generalize szI n = S at *
    obtain ⟨n1, n2⟩ := hn
    clear h0 s2 s3
    have hu : IntKind.u8.wrap n = ((byI n 0).toNat : Int) := by rw [u8_mod]; exact HL1.out
    go_enter Try.func28, Try.ntmps28
    go_wp2_with fail
    have O0 : Own w.heap.size (w.alloc (.cells #[.int .u8 ((byI n 0).toNat : Int)] 5)) (.slice (some ⟨w.heap.size, 0, none⟩) 1 1) (loI n (0 + 1)) := by
      rw [HL0.out]; exact Own.one w _ _ rfl
    have N0 := Lib.hid ((Nx.refl w).alloc (.cells #[.int .u8 ((byI n 0).toNat : Int)] 5))
    clear hu
    generalize w.alloc (.cells #[.int .u8 ((byI n 0).toNat : Int)] 5) = W at *
    go_loopw [0, 3] (fun x b wr => ∃ k : Nat, k + 1 ≤ S ∧ x = .int .i64 (n / 256 ^ k) ∧ Own w.heap.size wr b (loI n (k + 1)) ∧ Hid (Nx w wr)) (fun _ b _ => S - (match b with | .slice _ l _ => l | _ => 0))
    case atStart => exact ⟨0, hs, by simp, O0, N0⟩
    case round =>
      clear O0 N0
      obtain ⟨k, hk, rfl, hown, HN⟩ := hrel
      have HX := Lib.hid (div_range n k (by omega) ⟨n1, n2⟩)
      have HI := Lib.hid (fits_i8 n k (by omega))
      have HXN := Lib.hid (div_next n k)
      obtain ⟨x1, x2⟩ := HX.out
      have hln := hown.rd
      obtain ⟨A, c, rfl, -, -, -⟩ := hln
      cases hf : fits n (k + 1)
      · have hk2 : k + 2 ≤ S := by
          by_cases h : k + 1 = S
          · rw [h, HF.out] at hf; cases hf
          · omega
        have ht0 : (n / 256 ^ k != IntKind.i8.wrap (n / 256 ^ k)) = true := by rw [bne, ← HI.out, hf]; rfl
        have ht : (n / 256 ^ k != wrap64 (IntKind.i8.wrap (n / 256 ^ k))) = true := by rw [IntWalk.wrap64_in _ (by rw [i8_val]; omega)]; exact ht0
        clear ht0
        have HU : Hid (IntKind.u8.wrap (n / 256 ^ k / 256) = ((byI n (k + 1)).toNat : Int)) := Lib.hid (by rw [u8_mod, HXN.out]; exact byI_val n (k + 1))
        have HLK := Lib.hid (HL.out k)
        have HLE := HLL.out (k + 1)
        have HXE := HXN
        clear hf HF HG HI HX HXN
        generalize loI n (k + 1) = l at *
        generalize hl2e : loI n (k + 1 + 1) = l2 at *
        replace hl2e := Lib.hid hl2e
        generalize hxx : n / 256 ^ k = x at *
        replace hxx := Lib.hid hxx
        have hu := HU.out
        go_wp2_with (at_builtin; refine wpList_app rfl (.tmp 16) (.tmp 19) _ rfl Try.underlying23 info_u8b w.heap.size _ (.slice (some ⟨wr.heap.size, 0, none⟩) 1 1) l [byI n (k + 1)] rfl rfl (hown.alloc _) (Rd.one _ _ _ _ rfl) ?c2 ?c3 ?_)
        case c2 => simp only [List.length_singleton]; omega
        case c3 => have := HN.out.size; simp; omega
        intro v' w' hown' hb' _
        have HNN := Lib.hid ((HN.out.alloc (.cells #[.int .u8 ((byI n (k + 1)).toNat : Int)] 5)).app hb')
        have HO2 : Hid (Own w.heap.size w' v' l2) := Lib.hid (by rw [HLK.out]; exact hown')
        obtain ⟨A', c', rfl, -⟩ := hown'.rd
        have hl2 : (l ++ [byI n (k + 1)]).length = k + 2 := by simp; omega
        rw [hl2] at HO2 ⊢
        clear hown' hown hb'
        go_wp2
        go_roundw
        case rel => exact ⟨k + 1, by omega, by rw [← HXE.out], by rw [hl2e.out]; exact HO2.out, HNN⟩
        case measure => simp; omega
      · have hk2 : k + 1 = S := by
          by_cases h : k + 1 < S
          · have := HG.out _ h; rw [hf] at this; cases this
          · omega
        have ht0 : (n / 256 ^ k != IntKind.i8.wrap (n / 256 ^ k)) = false := by rw [bne, ← HI.out, hf]; rfl
        have ht : (n / 256 ^ k != wrap64 (IntKind.i8.wrap (n / 256 ^ k))) = false := by rw [IntWalk.wrap64_in _ (by rw [i8_val]; omega)]; exact ht0
        clear ht0
        have HO : Hid (Own w.heap.size wr (.slice A (loI n (k + 1)).length c) (bytesI n)) := Lib.hid (by rw [HB.out, ← hk2]; exact hown)
        clear hf HF HG HI HX HXN hown hk2
        generalize (loI n (k + 1)).length = ln at *
        generalize n / 256 ^ k = x at *
        go_wp2_with fail
        go_ret
        exact ⟨_, rfl, HO.out, HN.out⟩
end Go.Proofs.Ytbhoflmdhlchlaa
