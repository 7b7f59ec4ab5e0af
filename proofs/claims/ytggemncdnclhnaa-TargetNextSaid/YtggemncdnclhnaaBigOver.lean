/- CONTRACT OF LAYER 3: Over. -/
import Derived.Test.YtggemncdnclhnaaBig6
import Derived.Test.YtggemncdnclhnaaBigEq
import Derived.Test.YtggemncdnclhnaaRowW
import Derived.Test.YtggemncdnclhnaaRowU
import Derived.Deep.CutRange
import Derived.Deep.DeepCutAuto
import Derived.StillTailTactics
import Derived.BigRegion
namespace Go.Proofs.Ytggemncdnclhnaa
open Go.RowKit
set_option linter.unusedVariables false
set_option linter.unusedSimpArgs false

theorem of_zero (w : World) : Calls Try.prog 15 #[.int .u64 0] w fun e w' => e = .returned (.agg #[.int .u64 0, .int .u64 0, .int .u64 0, .int .u64 0]) ∧ Nx w w' := by
  have h := of_any 0 w (by omega)
  obtain ⟨z0, z1, z2, z3⟩ := lim_nought
  rw [z0, z1, z2, z3] at h
  exact h
theorem eq_nought (b : Nat) (hb : b < top) (w : World) : (Op.equalIn 10000 24 (.agg #[.int .u64 (lim b 0 : Int), .int .u64 (lim b 1 : Int), .int .u64 (lim b 2 : Int), .int .u64 (lim b 3 : Int)]) (.agg #[.int .u64 0, .int .u64 0, .int .u64 0, .int .u64 0])).run Try.prog w = .ok (decide (b = 0)) w := by
  have h := eqU b 0 hb (by decide) w
  obtain ⟨z0, z1, z2, z3⟩ := lim_nought
  rw [z0, z1, z2, z3] at h
  exact h
theorem blen_256 {a : Nat} (ha : a < top) : blen a ≤ 256 := by
  rcases Nat.lt_or_ge 256 (blen a) with hl | hl
  · have ha0 : a ≠ 0 := by rintro rfl; rw [blen_zero] at hl; omega
    have := blen_low a ha0
    have h3 : 2 ^ 256 ≤ 2 ^ (blen a - 1) := Nat.pow_le_pow_right (by decide) (by omega)
    rw [← top_eq] at h3
    omega
  · exact hl
/-- The start of the steps. -/
def Starts (a b k c t : Nat) (x : Int) : Prop := ((k : Int) = x + 1 ∨ (k = 0 ∧ x < 0)) ∧ Going a b k c t
theorem starts_at (a b : Nat) (hb : b ≠ 0) : ∃ k, Starts a b k a 0 ((blen a : Int) - (blen b : Int)) := by
  by_cases h : blen b ≤ blen a
  · exact ⟨blen a - blen b + 1, .inl (by omega), Going.start a b hb h⟩
  · have hl := Going.none a b hb (by omega)
    exact ⟨0, .inr ⟨rfl, by omega⟩, by simpa using hl, by omega, by simp [Nat.mod_one], by decide, Nat.le_refl _, .inl rfl⟩
theorem set_bit (t n q p : Nat) (hq : q < 4) (hn : n = 64 * q + p) (hp : p < 64) (h : t % 2 ^ (n + 1) = 0) :
    ((#[.int .u64 (lim t 0 : Int), .int .u64 (lim t 1 : Int), .int .u64 (lim t 2 : Int), .int .u64 (lim t 3 : Int)] : Array Value)).setIfInBounds q (.int .u64 (bits .or .u64 (lim t q : Int) (IntKind.u64.wrap (2 ^ p)))) = (#[.int .u64 (lim (t + 2 ^ n) 0 : Int), .int .u64 (lim (t + 2 ^ n) 1 : Int), .int .u64 (lim (t + 2 ^ n) 2 : Int), .int .u64 (lim (t + 2 ^ n) 3 : Int)] : Array Value) := by
  rw [show ((2 : Int) ^ p) = 1 * 2 ^ p from (Int.one_mul _).symm, bit_or t n q p hn hp h]
  have hq' : q = 0 ∨ q = 1 ∨ q = 2 ∨ q = 3 := by omega
  have B := bit_lim t n q p hn hp h
  rcases hq' with rfl | rfl | rfl | rfl
  · rw [show lim t 1 = lim (t + 2 ^ n) 1 by rw [B 1]; rfl, show lim t 2 = lim (t + 2 ^ n) 2 by rw [B 2]; rfl, show lim t 3 = lim (t + 2 ^ n) 3 by rw [B 3]; rfl]; rfl
  · rw [show lim t 0 = lim (t + 2 ^ n) 0 by rw [B 0]; rfl, show lim t 2 = lim (t + 2 ^ n) 2 by rw [B 2]; rfl, show lim t 3 = lim (t + 2 ^ n) 3 by rw [B 3]; rfl]; rfl
  · rw [show lim t 0 = lim (t + 2 ^ n) 0 by rw [B 0]; rfl, show lim t 1 = lim (t + 2 ^ n) 1 by rw [B 1]; rfl, show lim t 3 = lim (t + 2 ^ n) 3 by rw [B 3]; rfl]; rfl
  · rw [show lim t 0 = lim (t + 2 ^ n) 0 by rw [B 0]; rfl, show lim t 1 = lim (t + 2 ^ n) 1 by rw [B 1]; rfl, show lim t 2 = lim (t + 2 ^ n) 2 by rw [B 2]; rfl]; rfl
theorem left_small (b j : Nat) (w : World) (hj : (j : Int) < 256) (h : b * 2 ^ j < top) :
    Calls Try.prog 36 #[.agg #[.int .u64 (lim b 0 : Int), .int .u64 (lim b 1 : Int), .int .u64 (lim b 2 : Int), .int .u64 (lim b 3 : Int)], .int .i64 (j : Int)] w fun e w' => e = .returned (.agg #[.int .u64 (lim (b * 2 ^ j) 0 : Int), .int .u64 (lim (b * 2 ^ j) 1 : Int), .int .u64 (lim (b * 2 ^ j) 2 : Int), .int .u64 (lim (b * 2 ^ j) 3 : Int)]) ∧ Nx w w' := by
  have := left_any b (j : Int) w (by omega)
  unfold leftN at this
  rw [if_neg (by omega), Int.toNat_natCast, Nat.mod_eq_of_lt h] at this
  exact this
theorem sub_lt (a b : Nat) (w : World) (ha : a < top) (hb : b < top) (h : a < b) :
    Calls Try.prog 28 #[.agg #[.int .u64 (lim a 0 : Int), .int .u64 (lim a 1 : Int), .int .u64 (lim a 2 : Int), .int .u64 (lim a 3 : Int)], .agg #[.int .u64 (lim b 0 : Int), .int .u64 (lim b 1 : Int), .int .u64 (lim b 2 : Int), .int .u64 (lim b 3 : Int)]] w fun e w' => e = .returned (.tuple #[.agg #[.int .u64 (lim (subN a b) 0 : Int), .int .u64 (lim (subN a b) 1 : Int), .int .u64 (lim (subN a b) 2 : Int), .int .u64 (lim (subN a b) 3 : Int)], .bool true]) ∧ Nx w w' := by
  have := sub_any a b w ha hb
  rw [show subB a b = true by simp [subB, h]] at this
  exact this
theorem sub_ge (a b : Nat) (w : World) (ha : a < top) (hb : b < top) (h : b ≤ a) :
    Calls Try.prog 28 #[.agg #[.int .u64 (lim a 0 : Int), .int .u64 (lim a 1 : Int), .int .u64 (lim a 2 : Int), .int .u64 (lim a 3 : Int)], .agg #[.int .u64 (lim b 0 : Int), .int .u64 (lim b 1 : Int), .int .u64 (lim b 2 : Int), .int .u64 (lim b 3 : Int)]] w fun e w' => e = .returned (.tuple #[.agg #[.int .u64 (lim (a - b) 0 : Int), .int .u64 (lim (a - b) 1 : Int), .int .u64 (lim (a - b) 2 : Int), .int .u64 (lim (a - b) 3 : Int)], .bool false]) ∧ Nx w w' := by
  have := sub_any a b w ha hb
  rw [show subB a b = false by simp [subB]; omega, show subN a b = a - b by unfold subN; rw [if_pos h]] at this
  exact this

set_option maxHeartbeats 4000000 in
theorem over_yes (a b : Nat) (w : World) (ha : a < top) (hb : b < top) (hb0 : b ≠ 0) :
    Calls Try.prog 32 #[.agg #[.int .u64 (lim a 0 : Int), .int .u64 (lim a 1 : Int), .int .u64 (lim a 2 : Int), .int .u64 (lim a 3 : Int)], .agg #[.int .u64 (lim b 0 : Int), .int .u64 (lim b 1 : Int), .int .u64 (lim b 2 : Int), .int .u64 (lim b 3 : Int)]] w fun e w' => e = .returned (.tuple #[.agg #[.int .u64 (lim (a / b) 0 : Int), .int .u64 (lim (a / b) 1 : Int), .int .u64 (lim (a / b) 2 : Int), .int .u64 (lim (a / b) 3 : Int)], .agg #[.int .u64 (lim (a % b) 0 : Int), .int .u64 (lim (a % b) 1 : Int), .int .u64 (lim (a % b) 2 : Int), .int .u64 (lim (a % b) 3 : Int)], .int .i64 0]) ∧ Nx w w' := by
  have HA := Lib.hid ha
  have HB := Lib.hid hb
  have HB0 := Lib.hid hb0
  have heq : ∀ w, (Op.equalIn 10000 24 (.agg #[.int .u64 (lim b 0 : Int), .int .u64 (lim b 1 : Int), .int .u64 (lim b 2 : Int), .int .u64 (lim b 3 : Int)]) (.agg #[.int .u64 0, .int .u64 0, .int .u64 0, .int .u64 0])).run Try.prog w = .ok false w := fun w => by rw [eq_nought b hb w]; simp [hb0]
  clear ha hb hb0
  go_enter Try.func32, Try.ntmps32
  go_upto_region 1 with fail
  go_cut [13] (fun s wx => s = .bool false ∧ Nx w wx ∧ Row wx w.heap.size #[.int .u64 (lim a 0 : Int), .int .u64 (lim a 1 : Int), .int .u64 (lim a 2 : Int), .int .u64 (lim a 3 : Int)] 24 ∧ Row wx (w.heap.size + 1) #[.int .u64 (lim b 0 : Int), .int .u64 (lim b 1 : Int), .int .u64 (lim b 2 : Int), .int .u64 (lim b 3 : Int)] 24 ∧ Row wx (w.heap.size + 1 + 1) #[.int .u64 0, .int .u64 0, .int .u64 0, .int .u64 0] 24 ∧ Row wx (w.heap.size + 1 + 1 + 1) #[.int .u64 0, .int .u64 0, .int .u64 0, .int .u64 0] 24)
  case first =>
    go_region_held3 (fun w' => w'.cell? ⟨w.heap.size + 1, 0, none⟩ = some (.int .u64 (lim b 0 : Int)) ∧ w'.cell? ⟨w.heap.size + 1, 1, none⟩ = some (.int .u64 (lim b 1 : Int)) ∧ w'.cell? ⟨w.heap.size + 1, 2, none⟩ = some (.int .u64 (lim b 2 : Int)) ∧ w'.cell? ⟨w.heap.size + 1, 3, none⟩ = some (.int .u64 (lim b 3 : Int)))
      (first | go_keep | (have hf := hb1.facts.1; refine ⟨?_, ?_, ?_, ?_⟩ <;> (rw [hf _ _ (by simp)]; simp [go_sem])))
      (first | (go_at_call 15; refine (of_zero _).mono ?_; rintro e w1 ⟨rfl, hb1⟩))
    go_wp2
    go_meet
    refine ⟨rfl, (((((Nx.refl w).alloc _).alloc _).alloc _).alloc _).drew.trans hb1, ?_, ?_, ?_, ?_⟩
    · exact Row.nx ((((Row.new w _ _ _ rfl).alloc _).alloc _).alloc _).drew hb1
    · exact Row.nx (((Row.new _ _ _ _ (by simp)).alloc _).alloc _).drew hb1
    · exact Row.nx ((Row.new _ _ _ _ (by simp)).alloc _).drew hb1
    · exact Row.nx (Row.new _ _ _ _ (by simp)).drew hb1
  case rest =>
    clear heq
    obtain ⟨rfl, N1, RA, RB, R4, R5⟩ := hcut
    obtain ⟨k0, hst⟩ := starts_at a b HB0.out
    have HST := Lib.hid hst
    have hba := blen_256 HA.out
    have hbb := blen_256 HB.out
    have hw : IntKind.i64.wrap ((blen a : Int) - (blen b : Int)) = (blen a : Int) - (blen b : Int) := IntWalk.i64_in _ (by omega)
    have hlt := R5.lt
    go_wp2
    have RT : Row (wc.alloc (.cells #[.int .u64 0, .int .u64 0, .int .u64 0, .int .u64 0] 24)) wc.heap.size #[.int .u64 (lim 0 0 : Int), .int .u64 (lim 0 1 : Int), .int .u64 (lim 0 2 : Int), .int .u64 (lim 0 3 : Int)] 24 := Row.new wc _ _ _ rfl
    replace N1 := Lib.hid (N1.alloc (.cells #[.int .u64 0, .int .u64 0, .int .u64 0, .int .u64 0] 24))
    replace RA := RA.alloc (.cells #[.int .u64 0, .int .u64 0, .int .u64 0, .int .u64 0] 24)
    replace RB := RB.alloc (.cells #[.int .u64 0, .int .u64 0, .int .u64 0, .int .u64 0] 24)
    replace R4 := R4.alloc (.cells #[.int .u64 0, .int .u64 0, .int .u64 0, .int .u64 0] 24)
    replace R5 := R5.alloc (.cells #[.int .u64 0, .int .u64 0, .int .u64 0, .int .u64 0] 24)
    have hgt : w.heap.size + 1 + 1 + 1 < wc.heap.size := hlt
    clear hlt
    generalize hg : wc.heap.size = g at RT hgt ⊢
    generalize wc.alloc (.cells #[.int .u64 0, .int .u64 0, .int .u64 0, .int .u64 0] 24) = W1 at *
    clear hg
    replace N1 := Lib.hid N1.out.drew
    replace RA := RA.drew
    replace RB := RB.drew
    replace R4 := R4.drew
    replace R5 := R5.drew
    replace RT := RT.drew
    go_region_held3 (fun w' => w'.cell? ⟨w.heap.size, 0, none⟩ = some (.int .u64 (lim a 0 : Int)) ∧ w'.cell? ⟨w.heap.size, 1, none⟩ = some (.int .u64 (lim a 1 : Int)) ∧ w'.cell? ⟨w.heap.size, 2, none⟩ = some (.int .u64 (lim a 2 : Int)) ∧ w'.cell? ⟨w.heap.size, 3, none⟩ = some (.int .u64 (lim a 3 : Int)) ∧ w'.cell? ⟨w.heap.size + 1, 0, none⟩ = some (.int .u64 (lim b 0 : Int)) ∧ w'.cell? ⟨w.heap.size + 1, 1, none⟩ = some (.int .u64 (lim b 1 : Int)) ∧ w'.cell? ⟨w.heap.size + 1, 2, none⟩ = some (.int .u64 (lim b 2 : Int)) ∧ w'.cell? ⟨w.heap.size + 1, 3, none⟩ = some (.int .u64 (lim b 3 : Int)))
        (first | exact ⟨RA.four.1, RA.four.2.1, RA.four.2.2.1, RA.four.2.2.2, RB.four⟩ | go_keep)
        (first | (go_at_call 23; refine (len_any _ _ ?_).mono ?_; (first | exact HA.out | exact HB.out); rintro e w2 ⟨rfl, hb2⟩; replace N1 := Lib.hid (Nx.trans N1.out hb2); replace RA := RA.nx hb2; replace RB := RB.nx hb2; replace R4 := R4.nx hb2; replace R5 := R5.nx hb2; replace RT := RT.nx hb2))
    go_wp2
    go_loopw [8] (fun i wr => ∃ (k c t : Nat) (x : Int), i = .int .i64 x ∧ Hid (Starts a b k c t x) ∧ Hid (Nx w wr) ∧ Row wr w.heap.size #[.int .u64 (lim c 0 : Int), .int .u64 (lim c 1 : Int), .int .u64 (lim c 2 : Int), .int .u64 (lim c 3 : Int)] 24 ∧ Row wr (w.heap.size + 1) #[.int .u64 (lim b 0 : Int), .int .u64 (lim b 1 : Int), .int .u64 (lim b 2 : Int), .int .u64 (lim b 3 : Int)] 24 ∧ Row wr (w.heap.size + 1 + 1) #[.int .u64 0, .int .u64 0, .int .u64 0, .int .u64 0] 24 ∧ Row wr (w.heap.size + 1 + 1 + 1) #[.int .u64 0, .int .u64 0, .int .u64 0, .int .u64 0] 24 ∧ Row wr g #[.int .u64 (lim t 0 : Int), .int .u64 (lim t 1 : Int), .int .u64 (lim t 2 : Int), .int .u64 (lim t 3 : Int)] 24) (fun i _ => (intOf i + 1).toNat)
    case atStart => exact ⟨k0, a, 0, _, rfl, HST, N1, RA, RB, R4, R5, RT⟩
    case round =>
      clear hst HST hw hba hbb N1 RA RB R4 R5 RT hb2
      obtain ⟨k, c, t, x, rfl, HS, HN, RA, RB, R4, R5, RT⟩ := hrel
      by_cases hk : k = 0
      · subst hk
        have hx : x < 0 := by have := HS.out.1; omega
        have HD := Lib.hid HS.out.2.done
        clear HS
        have hdx : decide ((0 : Int) ≤ x) = false := by simp; omega
        obtain ⟨a0, a1, a2, a3⟩ := RA.four
        obtain ⟨t0, t1, t2, t3⟩ := RT.four
        have z0 : wr.cell? ⟨w.heap.size + 1 + 1, 0, none⟩ = some (.int .u64 0) := R4.cell rfl
        have z1 : wr.cell? ⟨w.heap.size + 1 + 1, 1, none⟩ = some (.int .u64 0) := R4.cell rfl
        have z2 : wr.cell? ⟨w.heap.size + 1 + 1, 2, none⟩ = some (.int .u64 0) := R4.cell rfl
        have z3 : wr.cell? ⟨w.heap.size + 1 + 1, 3, none⟩ = some (.int .u64 0) := R4.cell rfl
        have y0 : wr.cell? ⟨w.heap.size + 1 + 1 + 1, 0, none⟩ = some (.int .u64 0) := R5.cell rfl
        have y1 : wr.cell? ⟨w.heap.size + 1 + 1 + 1, 1, none⟩ = some (.int .u64 0) := R5.cell rfl
        have y2 : wr.cell? ⟨w.heap.size + 1 + 1 + 1, 2, none⟩ = some (.int .u64 0) := R5.cell rfl
        have y3 : wr.cell? ⟨w.heap.size + 1 + 1 + 1, 3, none⟩ = some (.int .u64 0) := R5.cell rfl
        have f4 := R4.frozen
        have f5 := R5.frozen
        clear RA RB R4 R5 RT
        go_wp2
        go_region
        go_wp2
        exact bodyPost_ret (v := .tuple #[.agg #[.int .u64 (lim t 0 : Int), .int .u64 (lim t 1 : Int), .int .u64 (lim t 2 : Int), .int .u64 (lim t 3 : Int)], .agg #[.int .u64 (lim c 0 : Int), .int .u64 (lim c 1 : Int), .int .u64 (lim c 2 : Int), .int .u64 (lim c 3 : Int)], .int .i64 0]) (by simp [results, Try.results32, go_sem, t0, t1, t2, t3, a0, a1, a2, a3, z0, z1, z2, z3, y0, y1, y2, y3, f4, f5]) rfl
          ⟨by rw [HD.out.1, HD.out.2], by repeat (first | with_reducible exact HN.out | with_reducible apply Nx.drew | with_reducible refine Nx.setAt ?_ _ (by omega))⟩
      · obtain ⟨j, rfl⟩ : ∃ j, k = j + 1 := ⟨k - 1, by omega⟩
        obtain rfl : x = (j : Int) := by have := HS.out.1; omega
        have HG := Lib.hid HS.out.2
        clear HS hk
        have HSM := Lib.hid (HG.out.small HB0.out HA.out)
        have HJ : Hid ((j : Int) < 256) := show _ < _ by have := HG.out.n_lt HB0.out HA.out; omega
        have HC : Hid (c < top) := show _ < _ by have := HG.out.2.2.2.2.1; have := HA.out; omega
        have hj1 : (j : Int) < 256 := HJ.out
        have hj0 : (0 : Int) ≤ (j : Int) := by omega
        by_cases hl : c < b * 2 ^ j
        · have HL := Lib.hid hl
          clear hl
          go_upto_region 7 with fail
          go_cut [9, 10] (fun p s wx => ∃ gN : Nat, p = .pointer (some ⟨gN, 0, none⟩) ∧ s = .bool true ∧ (w.heap.size ≠ gN ∧ w.heap.size + 1 ≠ gN ∧ w.heap.size + 1 + 1 ≠ gN ∧ w.heap.size + 1 + 1 + 1 ≠ gN ∧ g ≠ gN) ∧ Row wx gN #[.int .u64 (lim (subN c (b * 2 ^ j)) 0 : Int), .int .u64 (lim (subN c (b * 2 ^ j)) 1 : Int), .int .u64 (lim (subN c (b * 2 ^ j)) 2 : Int), .int .u64 (lim (subN c (b * 2 ^ j)) 3 : Int)] 24 ∧ Nx w wx ∧ Row wx w.heap.size #[.int .u64 (lim c 0 : Int), .int .u64 (lim c 1 : Int), .int .u64 (lim c 2 : Int), .int .u64 (lim c 3 : Int)] 24 ∧ Row wx (w.heap.size + 1) #[.int .u64 (lim b 0 : Int), .int .u64 (lim b 1 : Int), .int .u64 (lim b 2 : Int), .int .u64 (lim b 3 : Int)] 24 ∧ Row wx (w.heap.size + 1 + 1) #[.int .u64 0, .int .u64 0, .int .u64 0, .int .u64 0] 24 ∧ Row wx (w.heap.size + 1 + 1 + 1) #[.int .u64 0, .int .u64 0, .int .u64 0, .int .u64 0] 24 ∧ Row wx g #[.int .u64 (lim t 0 : Int), .int .u64 (lim t 1 : Int), .int .u64 (lim t 2 : Int), .int .u64 (lim t 3 : Int)] 24)
          case first =>
            have HN0 := HN
            have RA0 := RA
            have RB0 := RB
            have R40 := R4
            have R50 := R5
            have RT0 := RT
            replace HN := Lib.hid HN.out.drew
            replace RA := RA.drew
            replace RB := RB.drew
            replace R4 := R4.drew
            replace R5 := R5.drew
            replace RT := RT.drew
            go_region_held3 (fun w' => w'.cell? ⟨w.heap.size, 0, none⟩ = some (.int .u64 (lim c 0 : Int)) ∧ w'.cell? ⟨w.heap.size, 1, none⟩ = some (.int .u64 (lim c 1 : Int)) ∧ w'.cell? ⟨w.heap.size, 2, none⟩ = some (.int .u64 (lim c 2 : Int)) ∧ w'.cell? ⟨w.heap.size, 3, none⟩ = some (.int .u64 (lim c 3 : Int)) ∧ w'.cell? ⟨w.heap.size + 1, 0, none⟩ = some (.int .u64 (lim b 0 : Int)) ∧ w'.cell? ⟨w.heap.size + 1, 1, none⟩ = some (.int .u64 (lim b 1 : Int)) ∧ w'.cell? ⟨w.heap.size + 1, 2, none⟩ = some (.int .u64 (lim b 2 : Int)) ∧ w'.cell? ⟨w.heap.size + 1, 3, none⟩ = some (.int .u64 (lim b 3 : Int)))
            (first | with_reducible exact ⟨RA.four.1, RA.four.2.1, RA.four.2.2.1, RA.four.2.2.2, RB.four⟩ | with_reducible exact ⟨(RA.alloc _).four.1, (RA.alloc _).four.2.1, (RA.alloc _).four.2.2.1, (RA.alloc _).four.2.2.2, (RB.alloc _).four⟩ | with_reducible exact ⟨(RA0.alloc _).drew.four.1, (RA0.alloc _).drew.four.2.1, (RA0.alloc _).drew.four.2.2.1, (RA0.alloc _).drew.four.2.2.2, (RB0.alloc _).drew.four⟩ | with_reducible exact ⟨(((((RA.other _ 0 _ hn0).other _ 1 _ hn0).other _ 2 _ hn0).other _ 3 _ hn0)).four.1, (((((RA.other _ 0 _ hn0).other _ 1 _ hn0).other _ 2 _ hn0).other _ 3 _ hn0)).four.2.1, (((((RA.other _ 0 _ hn0).other _ 1 _ hn0).other _ 2 _ hn0).other _ 3 _ hn0)).four.2.2.1, (((((RA.other _ 0 _ hn0).other _ 1 _ hn0).other _ 2 _ hn0).other _ 3 _ hn0)).four.2.2.2, (((((RB.other _ 0 _ hn1).other _ 1 _ hn1).other _ 2 _ hn1).other _ 3 _ hn1)).four⟩ | go_keep)
            (first | (go_at_call 36; refine (left_small b j _ HJ.out HSM.out).mono ?_; rintro e w3 ⟨rfl, hb3⟩; (first | with_reducible (replace HN := Lib.hid (Nx.trans HN.out hb3); replace RA := RA.nx hb3; replace RB := RB.nx hb3; replace R4 := R4.nx hb3; replace R5 := R5.nx hb3; replace RT := RT.nx hb3; try (replace RN := RN.nx hb3)) | with_reducible (have hnn := HN.out.size; have hn0 := Nat.ne_of_lt RA.lt; have hn1 := Nat.ne_of_lt RB.lt; have hn4 := Nat.ne_of_lt R4.lt; have hn5 := Nat.ne_of_lt R5.lt; have hnt := Nat.ne_of_lt RT.lt; have RN := (Row.new _ #[.int .u64 0, .int .u64 0, .int .u64 0, .int .u64 0] 24 _ rfl).nx hb3; replace HN := Lib.hid (Nx.trans (HN.out.alloc _) hb3); replace RA := (RA.alloc _).nx hb3; replace RB := (RB.alloc _).nx hb3; replace R4 := (R4.alloc _).nx hb3; replace R5 := (R5.alloc _).nx hb3; replace RT := (RT.alloc _).nx hb3) | with_reducible (have hnn := HN0.out.size; have hn0 := Nat.ne_of_lt RA0.lt; have hn1 := Nat.ne_of_lt RB0.lt; have hn4 := Nat.ne_of_lt R40.lt; have hn5 := Nat.ne_of_lt R50.lt; have hnt := Nat.ne_of_lt RT0.lt; have RN := (Row.new _ #[.int .u64 0, .int .u64 0, .int .u64 0, .int .u64 0] 24 _ rfl).drew.nx hb3; replace HN := Lib.hid (Nx.trans (HN0.out.alloc _).drew hb3); replace RA := (RA0.alloc _).drew.nx hb3; replace RB := (RB0.alloc _).drew.nx hb3; replace R4 := (R40.alloc _).drew.nx hb3; replace R5 := (R50.alloc _).drew.nx hb3; replace RT := (RT0.alloc _).drew.nx hb3))) | (go_at_call 28; refine (sub_lt c (b * 2 ^ j) _ HC.out HSM.out HL.out).mono ?_; rintro e w3 ⟨rfl, hb3⟩; (first | with_reducible (replace HN := Lib.hid (Nx.trans HN.out hb3); replace RA := RA.nx hb3; replace RB := RB.nx hb3; replace R4 := R4.nx hb3; replace R5 := R5.nx hb3; replace RT := RT.nx hb3; try (replace RN := RN.nx hb3)) | with_reducible (have hnn := HN.out.size; have hn0 := Nat.ne_of_lt RA.lt; have hn1 := Nat.ne_of_lt RB.lt; have hn4 := Nat.ne_of_lt R4.lt; have hn5 := Nat.ne_of_lt R5.lt; have hnt := Nat.ne_of_lt RT.lt; have RN := (Row.new _ #[.int .u64 0, .int .u64 0, .int .u64 0, .int .u64 0] 24 _ rfl).nx hb3; replace HN := Lib.hid (Nx.trans (HN.out.alloc _) hb3); replace RA := (RA.alloc _).nx hb3; replace RB := (RB.alloc _).nx hb3; replace R4 := (R4.alloc _).nx hb3; replace R5 := (R5.alloc _).nx hb3; replace RT := (RT.alloc _).nx hb3) | with_reducible (have hnn := HN0.out.size; have hn0 := Nat.ne_of_lt RA0.lt; have hn1 := Nat.ne_of_lt RB0.lt; have hn4 := Nat.ne_of_lt R40.lt; have hn5 := Nat.ne_of_lt R50.lt; have hnt := Nat.ne_of_lt RT0.lt; have RN := (Row.new _ #[.int .u64 0, .int .u64 0, .int .u64 0, .int .u64 0] 24 _ rfl).drew.nx hb3; replace HN := Lib.hid (Nx.trans (HN0.out.alloc _).drew hb3); replace RA := (RA0.alloc _).drew.nx hb3; replace RB := (RB0.alloc _).drew.nx hb3; replace R4 := (R40.alloc _).drew.nx hb3; replace R5 := (R50.alloc _).drew.nx hb3; replace RT := (RT0.alloc _).drew.nx hb3)); try (obtain ⟨q0, q1, q2, q3⟩ := RN.zero4; have qf := RN.frozen)))

            all_goals go_wp2_with fail
            all_goals go_meet
            all_goals first | (refine ⟨_, rfl, rfl, ⟨Nat.ne_of_lt RA.lt, Nat.ne_of_lt RB.lt, Nat.ne_of_lt R4.lt, Nat.ne_of_lt R5.lt, Nat.ne_of_lt RT.lt⟩, Row.new _ _ _ _ rfl, HN.out.alloc _, RA.alloc _, RB.alloc _, R4.alloc _, R5.alloc _, RT.alloc _⟩) | (refine ⟨_, rfl, rfl, ⟨hn0, hn1, hn4, hn5, hnt⟩, ((((RN.set 0 _).set 1 _).set 2 _).set 3 _), ((((HN.out.setAt _ hnn).setAt _ hnn).setAt _ hnn).setAt _ hnn), (((((RA.other _ 0 _ hn0).other _ 1 _ hn0).other _ 2 _ hn0).other _ 3 _ hn0)), (((((RB.other _ 0 _ hn1).other _ 1 _ hn1).other _ 2 _ hn1).other _ 3 _ hn1)), (((((R4.other _ 0 _ hn4).other _ 1 _ hn4).other _ 2 _ hn4).other _ 3 _ hn4)), (((((R5.other _ 0 _ hn5).other _ 1 _ hn5).other _ 2 _ hn5).other _ 3 _ hn5)), (((((RT.other _ 0 _ hnt).other _ 1 _ hnt).other _ 2 _ hnt).other _ 3 _ hnt))⟩)
          case rest =>
            clear HN RA RB R4 R5 RT
            obtain ⟨gN, rfl, rfl, ⟨hn0, hn1, hn4, hn5, hnt⟩, RN, HN, RA, RB, R4, R5, RT⟩ := hcut
            replace HN := Lib.hid HN
            go_wp2
            go_roundw
            case rel => exact ⟨j, c, t, _, rfl, ⟨.inl (by omega), HG.out.less HL.out⟩, HN, RA, RB, R4, R5, RT⟩
            case measure => simp [intOf]
        · have HL := Lib.hid (Nat.le_of_not_lt hl)
          clear hl
          go_upto_region 7 with fail
          go_cut [9, 10] (fun p s wx => ∃ gN : Nat, p = .pointer (some ⟨gN, 0, none⟩) ∧ s = .bool false ∧ (w.heap.size ≠ gN ∧ w.heap.size + 1 ≠ gN ∧ w.heap.size + 1 + 1 ≠ gN ∧ w.heap.size + 1 + 1 + 1 ≠ gN ∧ g ≠ gN) ∧ Row wx gN #[.int .u64 (lim (c - b * 2 ^ j) 0 : Int), .int .u64 (lim (c - b * 2 ^ j) 1 : Int), .int .u64 (lim (c - b * 2 ^ j) 2 : Int), .int .u64 (lim (c - b * 2 ^ j) 3 : Int)] 24 ∧ Nx w wx ∧ Row wx w.heap.size #[.int .u64 (lim c 0 : Int), .int .u64 (lim c 1 : Int), .int .u64 (lim c 2 : Int), .int .u64 (lim c 3 : Int)] 24 ∧ Row wx (w.heap.size + 1) #[.int .u64 (lim b 0 : Int), .int .u64 (lim b 1 : Int), .int .u64 (lim b 2 : Int), .int .u64 (lim b 3 : Int)] 24 ∧ Row wx (w.heap.size + 1 + 1) #[.int .u64 0, .int .u64 0, .int .u64 0, .int .u64 0] 24 ∧ Row wx (w.heap.size + 1 + 1 + 1) #[.int .u64 0, .int .u64 0, .int .u64 0, .int .u64 0] 24 ∧ Row wx g #[.int .u64 (lim t 0 : Int), .int .u64 (lim t 1 : Int), .int .u64 (lim t 2 : Int), .int .u64 (lim t 3 : Int)] 24)
          case first =>
            have HN0 := HN
            have RA0 := RA
            have RB0 := RB
            have R40 := R4
            have R50 := R5
            have RT0 := RT
            replace HN := Lib.hid HN.out.drew
            replace RA := RA.drew
            replace RB := RB.drew
            replace R4 := R4.drew
            replace R5 := R5.drew
            replace RT := RT.drew
            go_region_held3 (fun w' => w'.cell? ⟨w.heap.size, 0, none⟩ = some (.int .u64 (lim c 0 : Int)) ∧ w'.cell? ⟨w.heap.size, 1, none⟩ = some (.int .u64 (lim c 1 : Int)) ∧ w'.cell? ⟨w.heap.size, 2, none⟩ = some (.int .u64 (lim c 2 : Int)) ∧ w'.cell? ⟨w.heap.size, 3, none⟩ = some (.int .u64 (lim c 3 : Int)) ∧ w'.cell? ⟨w.heap.size + 1, 0, none⟩ = some (.int .u64 (lim b 0 : Int)) ∧ w'.cell? ⟨w.heap.size + 1, 1, none⟩ = some (.int .u64 (lim b 1 : Int)) ∧ w'.cell? ⟨w.heap.size + 1, 2, none⟩ = some (.int .u64 (lim b 2 : Int)) ∧ w'.cell? ⟨w.heap.size + 1, 3, none⟩ = some (.int .u64 (lim b 3 : Int)))
            (first | with_reducible exact ⟨RA.four.1, RA.four.2.1, RA.four.2.2.1, RA.four.2.2.2, RB.four⟩ | with_reducible exact ⟨(RA.alloc _).four.1, (RA.alloc _).four.2.1, (RA.alloc _).four.2.2.1, (RA.alloc _).four.2.2.2, (RB.alloc _).four⟩ | with_reducible exact ⟨(RA0.alloc _).drew.four.1, (RA0.alloc _).drew.four.2.1, (RA0.alloc _).drew.four.2.2.1, (RA0.alloc _).drew.four.2.2.2, (RB0.alloc _).drew.four⟩ | with_reducible exact ⟨(((((RA.other _ 0 _ hn0).other _ 1 _ hn0).other _ 2 _ hn0).other _ 3 _ hn0)).four.1, (((((RA.other _ 0 _ hn0).other _ 1 _ hn0).other _ 2 _ hn0).other _ 3 _ hn0)).four.2.1, (((((RA.other _ 0 _ hn0).other _ 1 _ hn0).other _ 2 _ hn0).other _ 3 _ hn0)).four.2.2.1, (((((RA.other _ 0 _ hn0).other _ 1 _ hn0).other _ 2 _ hn0).other _ 3 _ hn0)).four.2.2.2, (((((RB.other _ 0 _ hn1).other _ 1 _ hn1).other _ 2 _ hn1).other _ 3 _ hn1)).four⟩ | go_keep)
            (first | (go_at_call 36; refine (left_small b j _ HJ.out HSM.out).mono ?_; rintro e w3 ⟨rfl, hb3⟩; (first | with_reducible (replace HN := Lib.hid (Nx.trans HN.out hb3); replace RA := RA.nx hb3; replace RB := RB.nx hb3; replace R4 := R4.nx hb3; replace R5 := R5.nx hb3; replace RT := RT.nx hb3; try (replace RN := RN.nx hb3)) | with_reducible (have hnn := HN.out.size; have hn0 := Nat.ne_of_lt RA.lt; have hn1 := Nat.ne_of_lt RB.lt; have hn4 := Nat.ne_of_lt R4.lt; have hn5 := Nat.ne_of_lt R5.lt; have hnt := Nat.ne_of_lt RT.lt; have RN := (Row.new _ #[.int .u64 0, .int .u64 0, .int .u64 0, .int .u64 0] 24 _ rfl).nx hb3; replace HN := Lib.hid (Nx.trans (HN.out.alloc _) hb3); replace RA := (RA.alloc _).nx hb3; replace RB := (RB.alloc _).nx hb3; replace R4 := (R4.alloc _).nx hb3; replace R5 := (R5.alloc _).nx hb3; replace RT := (RT.alloc _).nx hb3) | with_reducible (have hnn := HN0.out.size; have hn0 := Nat.ne_of_lt RA0.lt; have hn1 := Nat.ne_of_lt RB0.lt; have hn4 := Nat.ne_of_lt R40.lt; have hn5 := Nat.ne_of_lt R50.lt; have hnt := Nat.ne_of_lt RT0.lt; have RN := (Row.new _ #[.int .u64 0, .int .u64 0, .int .u64 0, .int .u64 0] 24 _ rfl).drew.nx hb3; replace HN := Lib.hid (Nx.trans (HN0.out.alloc _).drew hb3); replace RA := (RA0.alloc _).drew.nx hb3; replace RB := (RB0.alloc _).drew.nx hb3; replace R4 := (R40.alloc _).drew.nx hb3; replace R5 := (R50.alloc _).drew.nx hb3; replace RT := (RT0.alloc _).drew.nx hb3))) | (go_at_call 28; refine (sub_ge c (b * 2 ^ j) _ HC.out HSM.out HL.out).mono ?_; rintro e w3 ⟨rfl, hb3⟩; (first | with_reducible (replace HN := Lib.hid (Nx.trans HN.out hb3); replace RA := RA.nx hb3; replace RB := RB.nx hb3; replace R4 := R4.nx hb3; replace R5 := R5.nx hb3; replace RT := RT.nx hb3; try (replace RN := RN.nx hb3)) | with_reducible (have hnn := HN.out.size; have hn0 := Nat.ne_of_lt RA.lt; have hn1 := Nat.ne_of_lt RB.lt; have hn4 := Nat.ne_of_lt R4.lt; have hn5 := Nat.ne_of_lt R5.lt; have hnt := Nat.ne_of_lt RT.lt; have RN := (Row.new _ #[.int .u64 0, .int .u64 0, .int .u64 0, .int .u64 0] 24 _ rfl).nx hb3; replace HN := Lib.hid (Nx.trans (HN.out.alloc _) hb3); replace RA := (RA.alloc _).nx hb3; replace RB := (RB.alloc _).nx hb3; replace R4 := (R4.alloc _).nx hb3; replace R5 := (R5.alloc _).nx hb3; replace RT := (RT.alloc _).nx hb3) | with_reducible (have hnn := HN0.out.size; have hn0 := Nat.ne_of_lt RA0.lt; have hn1 := Nat.ne_of_lt RB0.lt; have hn4 := Nat.ne_of_lt R40.lt; have hn5 := Nat.ne_of_lt R50.lt; have hnt := Nat.ne_of_lt RT0.lt; have RN := (Row.new _ #[.int .u64 0, .int .u64 0, .int .u64 0, .int .u64 0] 24 _ rfl).drew.nx hb3; replace HN := Lib.hid (Nx.trans (HN0.out.alloc _).drew hb3); replace RA := (RA0.alloc _).drew.nx hb3; replace RB := (RB0.alloc _).drew.nx hb3; replace R4 := (R40.alloc _).drew.nx hb3; replace R5 := (R50.alloc _).drew.nx hb3; replace RT := (RT0.alloc _).drew.nx hb3)); try (obtain ⟨q0, q1, q2, q3⟩ := RN.zero4; have qf := RN.frozen)))

            all_goals go_wp2_with fail
            all_goals go_meet
            all_goals first | (refine ⟨_, rfl, rfl, ⟨Nat.ne_of_lt RA.lt, Nat.ne_of_lt RB.lt, Nat.ne_of_lt R4.lt, Nat.ne_of_lt R5.lt, Nat.ne_of_lt RT.lt⟩, Row.new _ _ _ _ rfl, HN.out.alloc _, RA.alloc _, RB.alloc _, R4.alloc _, R5.alloc _, RT.alloc _⟩) | (refine ⟨_, rfl, rfl, ⟨hn0, hn1, hn4, hn5, hnt⟩, ((((RN.set 0 _).set 1 _).set 2 _).set 3 _), ((((HN.out.setAt _ hnn).setAt _ hnn).setAt _ hnn).setAt _ hnn), (((((RA.other _ 0 _ hn0).other _ 1 _ hn0).other _ 2 _ hn0).other _ 3 _ hn0)), (((((RB.other _ 0 _ hn1).other _ 1 _ hn1).other _ 2 _ hn1).other _ 3 _ hn1)), (((((R4.other _ 0 _ hn4).other _ 1 _ hn4).other _ 2 _ hn4).other _ 3 _ hn4)), (((((R5.other _ 0 _ hn5).other _ 1 _ hn5).other _ 2 _ hn5).other _ 3 _ hn5)), (((((RT.other _ 0 _ hnt).other _ 1 _ hnt).other _ 2 _ hnt).other _ 3 _ hnt))⟩)
          case rest =>
            clear HN RA RB R4 R5 RT
            obtain ⟨gN, rfl, rfl, ⟨hn0, hn1, hn4, hn5, hnt⟩, RN, HN, RA, RB, R4, R5, RT⟩ := hcut
            obtain ⟨n0, n1, n2, n3⟩ := RN.four
            obtain ⟨a0, a1, a2, a3⟩ := RA.four
            have fa := RA.frozen
            go_upto_region 9 with fail
            go_cut [34] (fun _ wx => Nx w wx ∧ Row wx w.heap.size #[.int .u64 (lim (c - b * 2 ^ j) 0 : Int), .int .u64 (lim (c - b * 2 ^ j) 1 : Int), .int .u64 (lim (c - b * 2 ^ j) 2 : Int), .int .u64 (lim (c - b * 2 ^ j) 3 : Int)] 24 ∧ Row wx (w.heap.size + 1) #[.int .u64 (lim b 0 : Int), .int .u64 (lim b 1 : Int), .int .u64 (lim b 2 : Int), .int .u64 (lim b 3 : Int)] 24 ∧ Row wx (w.heap.size + 1 + 1) #[.int .u64 0, .int .u64 0, .int .u64 0, .int .u64 0] 24 ∧ Row wx (w.heap.size + 1 + 1 + 1) #[.int .u64 0, .int .u64 0, .int .u64 0, .int .u64 0] 24 ∧ Row wx g #[.int .u64 (lim t 0 : Int), .int .u64 (lim t 1 : Int), .int .u64 (lim t 2 : Int), .int .u64 (lim t 3 : Int)] 24)
            case first =>
              go_wp2_with fail
              go_meet
              exact ⟨((((HN.setAt _ (by omega)).setAt _ (by omega)).setAt _ (by omega)).setAt _ (by omega)),
                ((((RA.set 0 _).set 1 _).set 2 _).set 3 _), ((((RB.other _ 0 _ (by omega)).other _ 1 _ (by omega)).other _ 2 _ (by omega)).other _ 3 _ (by omega)), ((((R4.other _ 0 _ (by omega)).other _ 1 _ (by omega)).other _ 2 _ (by omega)).other _ 3 _ (by omega)), ((((R5.other _ 0 _ (by omega)).other _ 1 _ (by omega)).other _ 2 _ (by omega)).other _ 3 _ (by omega)), ((((RT.other _ 0 _ (by omega)).other _ 1 _ (by omega)).other _ 2 _ (by omega)).other _ 3 _ (by omega))⟩
            case rest =>
              clear HN RA RB R4 R5 RT RN n0 n1 n2 n3 a0 a1 a2 a3 fa hn0 hn1 hn4 hn5 hnt
              obtain ⟨HN, RA, RB, R4, R5, RT⟩ := hcut
              obtain ⟨q, hq⟩ : ∃ q : Nat, (j : Int) / 64 = (q : Int) := ⟨j / 64, by omega⟩
              obtain ⟨p, hp⟩ : ∃ p : Nat, (j : Int) % 64 = (p : Int) := ⟨j % 64, by omega⟩
              have HQ : Hid (q < 4) := show _ < _ by omega
              have HQP : Hid (j = 64 * q + p) := show _ = _ by omega
              have HP : Hid (p < 64) := show _ < _ by omega
              have hp0 : (0 : Int) ≤ (p : Int) := by omega
              have hp1 : (p : Int) ≤ 64 := by omega
              have HB2 := Lib.hid (set_bit t j q p HQ.out HQP.out HP.out HG.out.2.2.1)
              replace HN := Lib.hid HN
              have t0 : wc.cell? ⟨g, 0, none⟩ = some (.int .u64 (lim t 0 : Int)) ∧ wc.cell? ⟨g, 1, none⟩ = some (.int .u64 (lim t 1 : Int)) ∧ wc.cell? ⟨g, 2, none⟩ = some (.int .u64 (lim t 2 : Int)) ∧ wc.cell? ⟨g, 3, none⟩ = some (.int .u64 (lim t 3 : Int)) := RT.four
              obtain ⟨t0, t1, t2, t3⟩ := t0
              have ft := RT.frozen
              have hw0 : IntKind.i64.wrap (0 : Int) = 0 := by decide
              have hw1 : IntKind.i64.wrap (1 : Int) = 1 := by decide
              have hw2 : IntKind.i64.wrap (2 : Int) = 2 := by decide
              have hw3 : IntKind.i64.wrap (3 : Int) = 3 := by decide
              have hwp : IntKind.i64.wrap (p : Int) = (p : Int) := IntWalk.i64_in _ (by omega)
              have hpt : (j : Int).tmod 64 = (p : Int) := by rw [Int.tmod_eq_emod_of_nonneg hj0]; exact hp
              have hq' : q = 0 ∨ q = 1 ∨ q = 2 ∨ q = 3 := by have := HQ.out; omega
              rcases hq' with rfl | rfl | rfl | rfl
              · have hq2 : (j : Int) / 64 = 0 := hq
                clear hq
                go_wp2
                go_still_tail 9, (by kernel_rfl)
                change wpList _ _ _ _ _ wc.drew
                go_wp2
                go_roundw
                case rel =>
                  refine ⟨j, c - b * 2 ^ j, t + 2 ^ j, _, rfl, ⟨.inl (by omega), HG.out.more HB0.out HA.out HL.out⟩, (HN.out.drew.setAt _ (by omega)), RA.drew.other _ _ _ (by omega), RB.drew.other _ _ _ (by omega), R4.drew.other _ _ _ (by omega), R5.drew.other _ _ _ (by omega), ?_⟩
                  rw [← HB2.out]
                  exact RT.drew.set 0 _
                case measure => simp [intOf]
              · have hq2 : (j : Int) / 64 = 1 := hq
                clear hq
                go_wp2
                go_still_tail 9, (by kernel_rfl)
                change wpList _ _ _ _ _ wc.drew
                go_wp2
                go_roundw
                case rel =>
                  refine ⟨j, c - b * 2 ^ j, t + 2 ^ j, _, rfl, ⟨.inl (by omega), HG.out.more HB0.out HA.out HL.out⟩, (HN.out.drew.setAt _ (by omega)), RA.drew.other _ _ _ (by omega), RB.drew.other _ _ _ (by omega), R4.drew.other _ _ _ (by omega), R5.drew.other _ _ _ (by omega), ?_⟩
                  rw [← HB2.out]
                  exact RT.drew.set 1 _
                case measure => simp [intOf]
              · have hq2 : (j : Int) / 64 = 2 := hq
                clear hq
                go_wp2
                go_still_tail 9, (by kernel_rfl)
                change wpList _ _ _ _ _ wc.drew
                go_wp2
                go_roundw
                case rel =>
                  refine ⟨j, c - b * 2 ^ j, t + 2 ^ j, _, rfl, ⟨.inl (by omega), HG.out.more HB0.out HA.out HL.out⟩, (HN.out.drew.setAt _ (by omega)), RA.drew.other _ _ _ (by omega), RB.drew.other _ _ _ (by omega), R4.drew.other _ _ _ (by omega), R5.drew.other _ _ _ (by omega), ?_⟩
                  rw [← HB2.out]
                  exact RT.drew.set 2 _
                case measure => simp [intOf]
              · have hq2 : (j : Int) / 64 = 3 := hq
                clear hq
                go_wp2
                go_still_tail 9, (by kernel_rfl)
                change wpList _ _ _ _ _ wc.drew
                go_wp2
                go_roundw
                case rel =>
                  refine ⟨j, c - b * 2 ^ j, t + 2 ^ j, _, rfl, ⟨.inl (by omega), HG.out.more HB0.out HA.out HL.out⟩, (HN.out.drew.setAt _ (by omega)), RA.drew.other _ _ _ (by omega), RB.drew.other _ _ _ (by omega), R4.drew.other _ _ _ (by omega), R5.drew.other _ _ _ (by omega), ?_⟩
                  rw [← HB2.out]
                  exact RT.drew.set 3 _
                case measure => simp [intOf]

set_option maxHeartbeats 1000000 in
theorem over_no (a b : Nat) (w : World) (hb : b < top) (hb0 : b = 0) :
    Calls Try.prog 32 #[.agg #[.int .u64 (lim a 0 : Int), .int .u64 (lim a 1 : Int), .int .u64 (lim a 2 : Int), .int .u64 (lim a 3 : Int)], .agg #[.int .u64 (lim b 0 : Int), .int .u64 (lim b 1 : Int), .int .u64 (lim b 2 : Int), .int .u64 (lim b 3 : Int)]] w fun e w' => e = .returned (.tuple #[.agg #[.int .u64 0, .int .u64 0, .int .u64 0, .int .u64 0], .agg #[.int .u64 0, .int .u64 0, .int .u64 0, .int .u64 0], .int .i64 2]) ∧ Nx w w' := by
  have heq : ∀ w, (Op.equalIn 10000 24 (.agg #[.int .u64 (lim b 0 : Int), .int .u64 (lim b 1 : Int), .int .u64 (lim b 2 : Int), .int .u64 (lim b 3 : Int)]) (.agg #[.int .u64 0, .int .u64 0, .int .u64 0, .int .u64 0])).run Try.prog w = .ok true w := fun w => by rw [eq_nought b hb w]; simp [hb0]
  clear hb hb0
  go_enter Try.func32, Try.ntmps32
  go_upto_region 1 with fail
  go_cut [13] (fun s wx => s = .bool true ∧ Nx w wx ∧ Row wx (w.heap.size + 1 + 1) #[.int .u64 0, .int .u64 0, .int .u64 0, .int .u64 0] 24 ∧ Row wx (w.heap.size + 1 + 1 + 1) #[.int .u64 0, .int .u64 0, .int .u64 0, .int .u64 0] 24)
  case first =>
    go_region_held3 (fun w' => w'.cell? ⟨w.heap.size + 1, 0, none⟩ = some (.int .u64 (lim b 0 : Int)) ∧ w'.cell? ⟨w.heap.size + 1, 1, none⟩ = some (.int .u64 (lim b 1 : Int)) ∧ w'.cell? ⟨w.heap.size + 1, 2, none⟩ = some (.int .u64 (lim b 2 : Int)) ∧ w'.cell? ⟨w.heap.size + 1, 3, none⟩ = some (.int .u64 (lim b 3 : Int)))
      (first | go_keep | (have hf := hb1.facts.1; refine ⟨?_, ?_, ?_, ?_⟩ <;> (rw [hf _ _ (by simp)]; simp [go_sem])))
      (first | (go_at_call 15; refine (of_zero _).mono ?_; rintro e w1 ⟨rfl, hb1⟩))
    go_wp2
    go_meet
    refine ⟨rfl, (((((Nx.refl w).alloc _).alloc _).alloc _).alloc _).drew.trans hb1, ?_, ?_⟩
    · exact Row.nx ((Row.new _ _ _ _ (by simp)).alloc _).drew hb1
    · exact Row.nx (Row.new _ _ _ _ (by simp)).drew hb1
  case rest =>
    clear heq
    obtain ⟨rfl, N1, R4, R5⟩ := hcut
    replace N1 := Lib.hid N1
    obtain ⟨z0, z1, z2, z3⟩ := R4.zero4
    obtain ⟨y0, y1, y2, y3⟩ := R5.zero4
    have f4 := R4.frozen
    have f5 := R5.frozen
    clear R4 R5
    go_wp2
    exact bodyPost_ret (v := .tuple #[.agg #[.int .u64 0, .int .u64 0, .int .u64 0, .int .u64 0], .agg #[.int .u64 0, .int .u64 0, .int .u64 0, .int .u64 0], .int .i64 2]) (by simp [results, Try.results32, go_sem, z0, z1, z2, z3, y0, y1, y2, y3, f4, f5]) rfl
      ⟨rfl, by repeat (first | with_reducible exact N1.out | with_reducible apply Nx.drew | with_reducible refine Nx.setAt ?_ _ (by omega))⟩

theorem over_any (a b : Nat) (w : World) (ha : a < top) (hb : b < top) :
    Calls Try.prog 32 #[.agg #[.int .u64 (lim a 0 : Int), .int .u64 (lim a 1 : Int), .int .u64 (lim a 2 : Int), .int .u64 (lim a 3 : Int)], .agg #[.int .u64 (lim b 0 : Int), .int .u64 (lim b 1 : Int), .int .u64 (lim b 2 : Int), .int .u64 (lim b 3 : Int)]] w fun e w' => e = .returned (.tuple #[.agg #[.int .u64 (lim (overQ a b) 0 : Int), .int .u64 (lim (overQ a b) 1 : Int), .int .u64 (lim (overQ a b) 2 : Int), .int .u64 (lim (overQ a b) 3 : Int)], .agg #[.int .u64 (lim (overR a b) 0 : Int), .int .u64 (lim (overR a b) 1 : Int), .int .u64 (lim (overR a b) 2 : Int), .int .u64 (lim (overR a b) 3 : Int)], .int .i64 (overE b)]) ∧ Nx w w' := by
  unfold overQ overR overE
  by_cases h : b = 0
  · have := over_no a b w hb h
    obtain ⟨z0, z1, z2, z3⟩ := lim_nought
    rw [if_pos h, if_pos h, if_pos h, z0, z1, z2, z3]
    exact this
  · rw [if_neg h, if_neg h, if_neg h]
    exact over_yes a b w ha hb h
end Go.Proofs.Ytggemncdnclhnaa
