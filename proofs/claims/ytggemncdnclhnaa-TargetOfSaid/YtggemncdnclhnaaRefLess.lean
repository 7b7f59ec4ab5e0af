/- THE REFERENCE OF LAYER 3: Less. -/
import Derived.Test.YtggemncdnclhnaaRefAdd
import Derived.Deep.DeepCutAuto
import Derived.Deep.Cut
import Derived.Test.YtggemncdnclhnaaRegLaws
namespace Go.Proofs.Ytggemncdnclhnaa
open Go.RowKit
set_option linter.unusedVariables false
set_option linter.unusedSimpArgs false

/-- What Less says of bits from above, those below k not looked at yet. -/
theorem less_step (a b k : Nat) (he : a / 2 ^ (k + 1) = b / 2 ^ (k + 1)) : (a.testBit k = b.testBit k → a / 2 ^ k = b / 2 ^ k) ∧ (a.testBit k ≠ b.testBit k → decide (a < b) = b.testBit k) := by
  have h1 := bit_mod a k
  have h2 := bit_mod b k
  rw [Nat.pow_succ, ← Nat.div_div_eq_div_mul, ← Nat.div_div_eq_div_mul] at he
  have hp : 0 < 2 ^ k := Nat.pow_pos (by decide)
  have ea := Nat.div_add_mod a (2 ^ k)
  have eb := Nat.div_add_mod b (2 ^ k)
  have la := Nat.mod_lt a hp
  have lb := Nat.mod_lt b hp
  refine ⟨fun h => ?_, fun h => ?_⟩
  · rw [h] at h1
    omega
  · rcases ha : a.testBit k with _ | _ <;> rcases hb : b.testBit k with _ | _
    · rw [ha, hb] at h; exact absurd rfl h
    · rw [ha] at h1; rw [hb] at h2
      simp only [Bool.toNat_false, Bool.toNat_true] at h1 h2
      have hd : a / 2 ^ k + 1 = b / 2 ^ k := by omega
      rw [← hd, Nat.mul_add] at eb
      simp only [decide_eq_true_eq]
      omega
    · rw [ha] at h1; rw [hb] at h2
      simp only [Bool.toNat_false, Bool.toNat_true] at h1 h2
      have hd : a / 2 ^ k = b / 2 ^ k + 1 := by omega
      rw [hd, Nat.mul_add] at ea
      simp only [decide_eq_false_iff_not]
      omega
    · rw [ha, hb] at h; exact absurd rfl h

/-- What holds while both numbers' bits are laid, whatever the order. -/
def LessInv (t tb : TypeId) (a b : Nat) (w W : World) (L : Nat → Bool) (ac : Act) (wr : World) : Prop :=
  ∃ x5 x6 x8 x9 x10 x11 : Value, ac = ⟨#[.agg #[.int .u64 (lim a 0 : Int), .int .u64 (lim a 1 : Int), .int .u64 (lim a 2 : Int), .int .u64 (lim a 3 : Int)], .agg #[.int .u64 (lim b 0 : Int), .int .u64 (lim b 1 : Int), .int .u64 (lim b 2 : Int), .int .u64 (lim b 3 : Int)], .pointer (some ⟨w.heap.size, 0, none⟩), .pointer (some ⟨w.heap.size + 1, 0, none⟩), .bool false, x5, x6, undef, x8, x9, x10, x11,
    undef, undef, undef, undef, undef, undef, undef, undef, undef, undef, undef, undef, undef, undef], []⟩ ∧ Nx W wr ∧
    (L 0 = true → x8 = .agg #[.int .u64 (lim a 0 : Int), .int .u64 (lim a 1 : Int), .int .u64 (lim a 2 : Int), .int .u64 (lim a 3 : Int)]) ∧ (L 1 = true → x9 = .agg (bcel (bitsL a))) ∧ (L 2 = true → x10 = .agg #[.int .u64 (lim b 0 : Int), .int .u64 (lim b 1 : Int), .int .u64 (lim b 2 : Int), .int .u64 (lim b 3 : Int)]) ∧ (L 3 = true → x11 = .agg (bcel (bitsL b))) ∧
    (L 4 = true → ∃ g, x5 = .pointer (some ⟨g, 0, none⟩) ∧ W.heap.size ≤ g ∧ Row wr g (if L 6 = true then bcel (bitsL a) else bcel zb) tb) ∧
    (L 5 = true → ∃ g, x6 = .pointer (some ⟨g, 0, none⟩) ∧ W.heap.size ≤ g ∧ Row wr g (if L 7 = true then bcel (bitsL b) else bcel zb) tb) ∧
    (L 4 = true → L 5 = true → x5 ≠ x6) ∧ (L 6 = true → L 4 = true) ∧ (L 7 = true → L 5 = true)

set_option maxHeartbeats 4000000 in
set_option maxRecDepth 100000 in
theorem refLess_any (a b : Nat) (w : World) (ha : a < top) (hb : b < top) :
    Calls Try.prog 22 #[.agg #[.int .u64 (lim a 0 : Int), .int .u64 (lim a 1 : Int), .int .u64 (lim a 2 : Int), .int .u64 (lim a 3 : Int)], .agg #[.int .u64 (lim b 0 : Int), .int .u64 (lim b 1 : Int), .int .u64 (lim b 2 : Int), .int .u64 (lim b 3 : Int)]] w fun e w' => e = .returned (.bool (subB a b)) ∧ Nx w w' := by
  obtain ⟨hz, hs⟩ := zero_of_info info_bits
  have hsa : Hid ((Try.prog.info? 60).map (·.size) = some (bcel (bitsL a)).size) := Lib.hid (by rw [bcel_size, bitsL_length]; exact hs)
  have hsb : Hid ((Try.prog.info? 60).map (·.size) = some (bcel (bitsL b)).size) := Lib.hid (by rw [bcel_size, bitsL_length]; exact hs)
  have hoa : Hid ((bcel zb).size = (bcel (bitsL a)).size) := Lib.hid (by rw [bcel_size, bcel_size, bitsL_length, zb, List.length_replicate])
  have hob : Hid ((bcel zb).size = (bcel (bitsL b)).size) := Lib.hid (by rw [bcel_size, bcel_size, bitsL_length, zb, List.length_replicate])
  replace hs := Lib.hid hs
  go_enter Try.func22, Try.ntmps22
  go_upto_region 1 with (fail)
  go_cut [5, 6] (fun s5 s6 wx => ∃ gX gY : Nat, s5 = .pointer (some ⟨gX, 0, none⟩) ∧ s6 = .pointer (some ⟨gY, 0, none⟩) ∧ Hid (Nx w wx) ∧ Hid (Row wx gX (bcel (bitsL a)) 60) ∧ Hid (Row wx gY (bcel (bitsL b)) 60))
  case first =>
    have RA := (Row.new w #[.int .u64 (lim a 0 : Int), .int .u64 (lim a 1 : Int), .int .u64 (lim a 2 : Int), .int .u64 (lim a 3 : Int)] 24 _ rfl).alloc (.cells #[.int .u64 (lim b 0 : Int), .int .u64 (lim b 1 : Int), .int .u64 (lim b 2 : Int), .int .u64 (lim b 3 : Int)] 24)
    have RB := Row.new2 w (.cells #[.int .u64 (lim a 0 : Int), .int .u64 (lim a 1 : Int), .int .u64 (lim a 2 : Int), .int .u64 (lim a 3 : Int)] 24) #[.int .u64 (lim b 0 : Int), .int .u64 (lim b 1 : Int), .int .u64 (lim b 2 : Int), .int .u64 (lim b 3 : Int)] 24
    have N := ((Nx.refl w).alloc (.cells #[.int .u64 (lim a 0 : Int), .int .u64 (lim a 1 : Int), .int .u64 (lim a 2 : Int), .int .u64 (lim a 3 : Int)] 24)).alloc (.cells #[.int .u64 (lim b 0 : Int), .int .u64 (lim b 1 : Int), .int .u64 (lim b 2 : Int), .int .u64 (lim b 3 : Int)] 24)
    generalize ((w.alloc (.cells #[.int .u64 (lim a 0 : Int), .int .u64 (lim a 1 : Int), .int .u64 (lim a 2 : Int), .int .u64 (lim a 3 : Int)] 24)).alloc (.cells #[.int .u64 (lim b 0 : Int), .int .u64 (lim b 1 : Int), .int .u64 (lim b 2 : Int), .int .u64 (lim b 3 : Int)] 24)) = W at *
    refine wp_region_inv [[], [0], [], [2, 1], [], [], [4, 1, 3, 0, 1, 4, 5], [5, 3, 6, 0, 1, 2, 3, 4, 5, 6]] (LessInv 24 60 a b w W) (by kernel_rfl) (by kernel_rfl) (hord_of (by decide)) ?_ ?_ ?_
    · exact ⟨undef, undef, undef, undef, undef, undef, rfl, (Nx.refl _).drew, (fun h => by cases h), (fun h => by cases h), (fun h => by cases h), (fun h => by cases h), (fun h => by cases h), (fun h => by cases h), (fun h => by cases h), (fun h => by cases h), (fun h => by cases h)⟩
    · rintro L ac wr ⟨x5, x6, x8, x9, x10, x11, rfl, HNW, F0, F1, F2, F3, F4, F5, F45, F6, F7⟩ i hi hL hd K hK
      have hi8 : i < 8 := hi
      have hcs : i = 0 ∨ i = 1 ∨ i = 2 ∨ i = 3 ∨ i = 4 ∨ i = 5 ∨ i = 6 ∨ i = 7 := by omega
      clear hi hi8
      rcases hcs with rfl | rfl | rfl | rfl | rfl | rfl | rfl | rfl
      · refine wpOp_of rfl rfl (wp_load_row 24 (.tmp 2) rfl w.heap.size rfl 24 #[.int .u64 (lim a 0 : Int), .int .u64 (lim a 1 : Int), .int .u64 (lim a 2 : Int), .int .u64 (lim a 3 : Int)] (0, 0) _ (RA.nx HNW) Try.underlying24 rfl (by kernel_rfl) (hK _ _ ?_))
        exact ⟨x5, x6, _, x9, x10, x11, rfl, HNW, (fun _ => rfl), F1, F2, F3, F4, F5, F45, F6, F7⟩
      · have e8 := F0 (hd 0 (by decide))
        subst e8
        refine wpOp_of rfl rfl (wp_call_of (some 9) rfl 53 #[.agg #[.int .u64 (lim a 0 : Int), .int .u64 (lim a 1 : Int), .int .u64 (lim a 2 : Int), .int .u64 (lim a 3 : Int)]] (by kernel_rfl) _ (refBits_any a wr) (fun w' hn => hK _ _ ?_))
        exact ⟨x5, x6, _, _, x10, x11, rfl, HNW.trans hn, F0, (fun _ => rfl), F2, F3, (fun h => by obtain ⟨g, e, hg, r⟩ := F4 h; exact ⟨g, e, hg, r.nx hn⟩), (fun h => by obtain ⟨g, e, hg, r⟩ := F5 h; exact ⟨g, e, hg, r.nx hn⟩), F45, F6, F7⟩
      · refine wpOp_of rfl rfl (wp_load_row 24 (.tmp 3) rfl (w.heap.size + 1) rfl 24 #[.int .u64 (lim b 0 : Int), .int .u64 (lim b 1 : Int), .int .u64 (lim b 2 : Int), .int .u64 (lim b 3 : Int)] (0, 0) _ (RB.nx HNW) Try.underlying24 rfl (by kernel_rfl) (hK _ _ ?_))
        exact ⟨x5, x6, x8, x9, _, x11, rfl, HNW, F0, F1, (fun _ => rfl), F3, F4, F5, F45, F6, F7⟩
      · have e10 := F2 (hd 2 (by decide))
        subst e10
        refine wpOp_of rfl rfl (wp_call_of (some 11) rfl 53 #[.agg #[.int .u64 (lim b 0 : Int), .int .u64 (lim b 1 : Int), .int .u64 (lim b 2 : Int), .int .u64 (lim b 3 : Int)]] (by kernel_rfl) _ (refBits_any b wr) (fun w' hn => hK _ _ ?_))
        exact ⟨x5, x6, x8, x9, _, _, rfl, HNW.trans hn, F0, F1, F2, (fun _ => rfl), (fun h => by obtain ⟨g, e, hg, r⟩ := F4 h; exact ⟨g, e, hg, r.nx hn⟩), (fun h => by obtain ⟨g, e, hg, r⟩ := F5 h; exact ⟨g, e, hg, r.nx hn⟩), F45, F6, F7⟩
      · have h6 : L 6 = false := by
          rcases h : L 6 with _ | _
          · rfl
          · rw [F6 h] at hL; cases hL
        refine wpOp_of rfl rfl (wp_alloc_of (some 5) rfl 60 rfl (bcel zb) hz (hK _ _ ?_))
        refine ⟨_, x6, x8, x9, x10, x11, rfl, HNW.alloc _, F0, F1, F2, F3, (fun _ => ⟨_, rfl, HNW.size, ?_⟩), (fun h => by obtain ⟨g, e, hg, r⟩ := F5 h; exact ⟨g, e, hg, r.alloc _⟩), (fun _ h => ?_), (fun _ => rfl), F7⟩
        · show Row _ _ (if L 6 = true then _ else _) _
          rw [h6]; exact Row.new _ _ _ _ rfl
        · obtain ⟨g, e, hg, r⟩ := F5 h
          rw [e]
          exact ptr_ne (Nat.ne_of_lt r.lt)
      · have h7 : L 7 = false := by
          rcases h : L 7 with _ | _
          · rfl
          · rw [F7 h] at hL; cases hL
        refine wpOp_of rfl rfl (wp_alloc_of (some 6) rfl 60 rfl (bcel zb) hz (hK _ _ ?_))
        refine ⟨x5, _, x8, x9, x10, x11, rfl, HNW.alloc _, F0, F1, F2, F3, (fun h => by obtain ⟨g, e, hg, r⟩ := F4 h; exact ⟨g, e, hg, r.alloc _⟩), (fun _ => ⟨_, rfl, HNW.size, ?_⟩), (fun h _ => ?_), F6, (fun _ => rfl)⟩
        · show Row _ _ (if L 7 = true then _ else _) _
          rw [h7]; exact Row.new _ _ _ _ rfl
        · obtain ⟨g, e, hg, r⟩ := F4 h
          rw [e]
          exact ptr_ne (Nat.ne_of_gt r.lt)
      · have e9 := F1 (hd 1 (by decide))
        obtain ⟨g, e5, hg, r⟩ := F4 (hd 4 (by decide))
        obtain ⟨g', e6, hg', r'⟩ := F5 (hd 5 (by decide))
        have hne := F45 (hd 4 (by decide)) (hd 5 (by decide))
        have hgg : g ≠ g' := fun h => hne (by rw [e5, e6, h])
        subst e9 e5 e6
        rw [if_neg (by rw [hL]; decide)] at r
        refine wpOp_of rfl rfl (wp_store_row 60 (.tmp 5) (.tmp 9) rfl g (bcel (bitsL a)) rfl rfl 60 (bcel zb) r hsa.out hoa.out (bcel_one _) (hK _ _ ?_))
        exact ⟨_, _, x8, _, x10, x11, rfl, HNW.setRow _ hg, F0, F1, F2, F3, (fun _ => ⟨g, rfl, hg, r.setRow _⟩), (fun _ => ⟨g', rfl, hg', r'.setRow_other _ (Ne.symm hgg)⟩), F45, (fun _ => hd 4 (by decide)), F7⟩
      · have e11 := F3 (hd 3 (by decide))
        obtain ⟨g, e5, hg, r⟩ := F4 (hd 4 (by decide))
        obtain ⟨g', e6, hg', r'⟩ := F5 (hd 5 (by decide))
        have hne := F45 (hd 4 (by decide)) (hd 5 (by decide))
        have hgg : g ≠ g' := fun h => hne (by rw [e5, e6, h])
        subst e11 e5 e6
        rw [if_neg (by rw [hL]; decide)] at r'
        refine wpOp_of rfl rfl (wp_store_row 60 (.tmp 6) (.tmp 11) rfl g' (bcel (bitsL b)) rfl rfl 60 (bcel zb) r' hsb.out hob.out (bcel_one _) (hK _ _ ?_))
        exact ⟨_, _, x8, x9, x10, _, rfl, HNW.setRow _ hg', F0, F1, F2, F3, (fun _ => ⟨g, rfl, hg, r.setRow_other _ hgg⟩), (fun _ => ⟨g', rfl, hg', r'.setRow _⟩), F45, F6, (fun _ => hd 5 (by decide))⟩
    · rintro L ac wr ⟨x5, x6, x8, x9, x10, x11, rfl, HNW, F0, F1, F2, F3, F4, F5, F45, F6, F7⟩ hall
      have hall' : ∀ i, i < 8 → L i = true := hall
      obtain ⟨g, e5, hg, r⟩ := F4 (hall' 4 (by decide))
      obtain ⟨g', e6, hg', r'⟩ := F5 (hall' 5 (by decide))
      rw [if_pos (hall' 6 (by decide))] at r
      rw [if_pos (hall' 7 (by decide))] at r'
      subst e5 e6
      have NF := Lib.hid (N.trans HNW)
      have RF := Lib.hid r
      have RF' := Lib.hid r'
      clear F0 F1 F2 F3 F4 F5 F45 F6 F7 hall hall' HNW N RA RB r r'
      go_wp2_with fail
      go_meet
      exact ⟨g, g', rfl, rfl, NF, RF, RF'⟩
  case rest =>
    obtain ⟨gX, gY, rfl, rfl, HN, HX, HY⟩ := hcut
    have HE0 : Hid (a / 2 ^ 256 = b / 2 ^ 256) := Lib.hid (by rw [← top_eq, Nat.div_eq_of_lt ha, Nat.div_eq_of_lt hb])
    have HF : Hid (a / 2 ^ 0 = b / 2 ^ 0 → subB a b = false) := Lib.hid (by
      simp only [Nat.pow_zero, Nat.div_one]
      intro h
      subst h
      unfold subB
      simp)
    clear hsa hsb hoa hob hs hz ha hb
    go_wp2
    go_loopw [7] (fun i wr => ∃ k : Nat, k ≤ 256 ∧ i = .int .i64 ((k : Int) - 1) ∧ Hid (a / 2 ^ k = b / 2 ^ k) ∧ ∃ n, wr = wc.drewN n) (fun i _ => (intOf i + 1).toNat)
    case atStart => exact ⟨256, by omega, rfl, HE0, 0, rfl⟩
    case round =>
      obtain ⟨k, hk, rfl, HE, n, rfl⟩ := hrel
      by_cases hk0 : k = 0
      · subst hk0
        have hfin := Lib.hid (HF.out HE.out)
        go_wp2
        go_ret
        exact ⟨by rw [hfin.out]; rfl, HN.out.drewN _⟩
      · obtain ⟨j, rfl⟩ : ∃ j, k = j + 1 := ⟨k - 1, by omega⟩
        have ej : (((j + 1 : Nat) : Int) - 1) = (j : Int) := by omega
        rw [ej]
        clear ej
        have hj0 : (0 : Int) ≤ (j : Int) := by omega
        have hj1 : (j : Int) < 256 := by omega
        have cx := HX.out.cell (bcel_get (bitsL a) j (by rw [bitsL_length]; omega))
        have cy := HY.out.cell (bcel_get (bitsL b) j (by rw [bitsL_length]; omega))
        rw [bitsL_get] at cx cy
        obtain ⟨HS1, HS2⟩ := less_step a b j HE.out
        replace HS1 := Lib.hid HS1
        replace HS2 := Lib.hid HS2
        generalize a.testBit j = x at *
        generalize b.testBit j = y at *
        rcases x with _ | _ <;> rcases y with _ | _
        · go_wp2
          go_quiet (fail)
          go_wp2
          go_roundw
          case rel => exact ⟨j, by omega, rfl, Lib.hid (HS1.out (by simp)), _, rfl⟩
          case measure => simp [intOf]
        · have hv : Hid (subB a b = true) := Lib.hid (HS2.out (by simp))
          go_wp2
          go_quiet (fail)
          go_wp2
          go_ret
          exact ⟨by first | exact hv.out | (rw [hv.out]; rfl) | exact hv.out.symm, by repeat (first | with_reducible exact HN.out | with_reducible apply Nx.drew | with_reducible apply Nx.drewN)⟩
        · have hv : Hid (subB a b = false) := Lib.hid (HS2.out (by simp))
          go_wp2
          go_quiet (fail)
          go_wp2
          go_ret
          exact ⟨by first | exact hv.out | (rw [hv.out]; rfl) | exact hv.out.symm, by repeat (first | with_reducible exact HN.out | with_reducible apply Nx.drew | with_reducible apply Nx.drewN)⟩
        · go_wp2
          go_quiet (fail)
          go_wp2
          go_roundw
          case rel => exact ⟨j, by omega, rfl, Lib.hid (HS1.out (by simp)), _, rfl⟩
          case measure => simp [intOf]
end Go.Proofs.Ytggemncdnclhnaa
