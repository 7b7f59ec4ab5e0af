/- CONTRACTS OF LAYER 12: True, Bool; the document's worth, Bytes, Number, True, Bool. -/
import Derived.Test.YtbhoflmdhlchlaaCell3
namespace Go.Proofs.Ytbhoflmdhlchlaa
open Go Go.RowKit
set_option linter.unusedVariables false
set_option linter.unusedSimpArgs false

def nz (l : List UInt8) : Bool := l.any fun x => decide (x ≠ 0)
theorem nz_take (l : List UInt8) (k : Nat) (h : k < l.length) : nz (l.take (k + 1)) = (nz (l.take k) || decide (l[k] ≠ 0)) := by
  unfold nz
  rw [List.take_succ_eq_append_getElem h, List.any_append]
  simp
theorem nz_hit (l : List UInt8) (k : Nat) (h : k < l.length) (hk : l[k] ≠ 0) : nz l = true := by
  unfold nz
  rw [List.any_eq_true]
  exact ⟨l[k], List.getElem_mem h, by simp [hk]⟩
theorem u8_ne0 (x : UInt8) : ((x.toNat : Int) != 0) = decide (x ≠ 0) := by
  rw [Bool.eq_iff_iff, bne_iff_ne, decide_eq_true_eq]
  constructor
  · rintro h rfl; exact h rfl
  · intro h e; apply h; apply UInt8.toNat_inj.1; show x.toNat = 0; omega
theorem ctrue1_any (x : UInt8) (w : World) : Calls Try.prog 57 #[.int .u8 (x.toNat : Int)] w fun e w' => e = .returned (.bool (decide (x ≠ 0))) ∧ w = w' := by
  have h := u8_ne0 x
  generalize decide (x ≠ 0) = b at *
  go_enter Try.func57, Try.ntmps57
  go_wp2
  go_ret
  exact ⟨by rw [← h]; rfl, rfl⟩
set_option maxHeartbeats 1000000 in
theorem cindex_any (v : Value) (l : List UInt8) (w : World) (hr : Rd w v l) :
    Calls Try.prog 70 #[v, .func (.func 57) #[] #[]] w fun e w' => ∃ r : Int, e = .returned (.int .i64 r) ∧ decide (0 ≤ r) = nz l ∧ w = w' := by
  obtain ⟨A, c, rfl, hc, hmx, ha⟩ := hr
  unfold maxLen at hmx
  go_enter Try.func70, Try.ntmps70
  go_wp2_with fail
  go_loop [8] (fun j => ∃ k : Nat, k ≤ l.length ∧ j = .int .i64 k ∧ nz (l.take k) = false) (fun j => l.length - (intOf j).toNat)
  case atStart => exact ⟨0, by omega, rfl, rfl⟩
  case round =>
    obtain ⟨k, hk, rfl, hz⟩ := hrel
    by_cases hlt : k < l.length
    · obtain ⟨b, o, rfl, hb, hcc⟩ := ha (by omega)
      have g := hcc k hlt
      clear hcc ha
      have HT := Lib.hid (nz_take l k hlt)
      have HH := Lib.hid (nz_hit l k hlt)
      have HZ := Lib.hid hz
      clear hz
      generalize hx : l[k] = x at *
      replace hx := Lib.hid hx
      have HC := Lib.hid (fun w => ctrue1_any x w)
      by_cases h0 : x = 0
      · have hd : decide (x ≠ 0) = false := by simp [h0]
        have H0 := Lib.hid h0
        clear h0
        go_wp2_with fail
        refine (HC.out w).mono ?_
        rintro e w1 ⟨rfl, rfl⟩
        go_wp2_with fail
        go_round
        case rel => exact ⟨k + 1, by omega, by go_num, by rw [HT.out, HZ.out, hd]; rfl⟩
        case measure => simp [intOf]; omega
      · have hd : decide (x ≠ 0) = true := by simp [h0]
        have H0 := Lib.hid h0
        clear h0
        go_wp2_with fail
        refine (HC.out w).mono ?_
        rintro e w1 ⟨rfl, rfl⟩
        go_wp2_with fail
        go_ret
        exact ⟨_, rfl, by rw [HH.out H0.out]; simp, rfl⟩
    · obtain rfl : k = l.length := by omega
      rw [List.take_of_length_le (Nat.le_refl _)] at hz
      have HZ := Lib.hid hz
      clear hz
      go_wp2_with fail
      go_ret
      exact ⟨-1, rfl, by rw [HZ.out]; rfl, rfl⟩
theorem ccontains_any (v : Value) (l : List UInt8) (w : World) (hr : Rd w v l) :
    Calls Try.prog 56 #[v, .func (.func 57) #[] #[]] w fun e w' => e = .returned (.bool (nz l)) ∧ w = w' := by
  have HI := Lib.hid (cindex_any v l w hr)
  have hv : ∃ A n c, v = .slice A n c := by obtain ⟨A, c, rfl, _⟩ := hr; exact ⟨_, _, _, rfl⟩
  obtain ⟨A, n, c, rfl⟩ := hv
  go_enter Try.func56, Try.ntmps56
  go_wp2_with fail
  refine HI.out.mono ?_
  rintro e w1 ⟨r, rfl, hd, rfl⟩
  have HD := Lib.hid hd
  clear hd
  go_wp2_with fail
  go_ret
  exact ⟨by rw [← HD.out]; rfl, rfl⟩
theorem ctrue_any (v : Value) (l : List UInt8) (w : World) (hr : Rd w v l) :
    Calls Try.prog 30 #[v] w fun e w' => e = .returned (.bool (nz l)) ∧ w = w' := by
  have HI := Lib.hid (ccontains_any v l w hr)
  have hv : ∃ A n c, v = .slice A n c := by obtain ⟨A, c, rfl, _⟩ := hr; exact ⟨_, _, _, rfl⟩
  obtain ⟨A, n, c, rfl⟩ := hv
  generalize nz l = z at *
  go_enter Try.func30, Try.ntmps30
  go_wp2_with fail
  refine HI.out.mono ?_
  rintro e w1 ⟨rfl, rfl⟩
  go_wp2_with fail
  go_ret
  exact ⟨rfl, rfl⟩
def boolL (b : Bool) : List UInt8 := if b = true then [1] else []
theorem cbool_any (b : Bool) (w : World) : Calls Try.prog 32 #[.bool b] w fun e w' => ∃ v, e = .returned v ∧ Own w.heap.size w' v (boolL b) ∧ Nx w w' := by
  have H1 := Lib.hid (cbytes_any 1 w (by omega))
  have H0 := Lib.hid (cbytes_any 0 w (by omega))
  have e1 : bytesI 1 = [1] := by decide
  have e0 : bytesI 0 = [] := by decide
  rw [e1] at H1
  rw [e0] at H0
  cases b
  · go_enter Try.func32, Try.ntmps32
    go_wp2_with fail
    refine H0.out.mono ?_
    rintro e w1 ⟨v, rfl, o1, n1⟩
    have O1 := Lib.hid o1
    have N1 := Lib.hid n1
    clear o1 n1
    go_wp2_with fail
    go_ret
    exact ⟨_, rfl, O1.out, N1.out⟩
  · go_enter Try.func32, Try.ntmps32
    go_wp2_with fail
    refine H1.out.mono ?_
    rintro e w1 ⟨v, rfl, o1, n1⟩
    have O1 := Lib.hid o1
    have N1 := Lib.hid n1
    clear o1 n1
    go_wp2_with fail
    go_ret
    exact ⟨_, rfl, O1.out, N1.out⟩
theorem rbool_any (b : Bool) (w : World) : Calls Try.prog 33 #[.bool b] w fun e w' => ∃ v, e = .returned v ∧ Own w.heap.size w' v (boolL b) ∧ Nx w w' := by
  cases b
  · go_enter Try.func33, Try.ntmps33
    go_wp2_with fail
    go_ret
    exact ⟨_, rfl, Own.nil _ _, Nx.refl _⟩
  · go_enter Try.func33, Try.ntmps33
    go_wp2_with fail
    go_ret
    exact ⟨_, rfl, Own.one w 1 1 rfl, (Nx.refl w).alloc _⟩
set_option maxHeartbeats 1000000 in
theorem rtrue_any (v : Value) (l : List UInt8) (w : World) (hr : Rd w v l) :
    Calls Try.prog 31 #[v] w fun e w' => e = .returned (.bool (nz l)) ∧ w = w' := by
  obtain ⟨A, c, rfl, hc, hmx, ha⟩ := hr
  unfold maxLen at hmx
  go_enter Try.func31, Try.ntmps31
  go_wp2_with fail
  go_loop [3] (fun j => ∃ k : Nat, k ≤ l.length ∧ j = .int .i64 k ∧ nz (l.take k) = false) (fun j => l.length - (intOf j).toNat)
  case atStart => exact ⟨0, by omega, rfl, rfl⟩
  case round =>
    obtain ⟨k, hk, rfl, hz⟩ := hrel
    by_cases hlt : k < l.length
    · obtain ⟨b, o, rfl, hb, hcc⟩ := ha (by omega)
      have g := hcc k hlt
      clear hcc ha
      have HT := Lib.hid (nz_take l k hlt)
      have HH := Lib.hid (nz_hit l k hlt)
      have HZ := Lib.hid hz
      clear hz
      generalize hx : l[k] = x at *
      replace hx := Lib.hid hx
      have hn := u8_ne0 x
      by_cases h0 : x = 0
      · have hd : decide (x ≠ 0) = false := by simp [h0]
        rw [hd] at hn
        have HD := Lib.hid hd
        clear h0 hd
        go_wp2_with fail
        go_round
        case rel => exact ⟨k + 1, by omega, by go_num, by rw [HT.out, HZ.out, HD.out]; rfl⟩
        case measure => simp [intOf]; omega
      · have hd : decide (x ≠ 0) = true := by simp [h0]
        rw [hd] at hn
        have H0 := Lib.hid h0
        clear h0 hd
        go_wp2_with fail
        go_ret
        exact ⟨by rw [HH.out H0.out]; rfl, rfl⟩
    · obtain rfl : k = l.length := by omega
      rw [List.take_of_length_le (Nat.le_refl _)] at hz
      have HZ := Lib.hid hz
      clear hz
      go_wp2_with fail
      go_ret
      exact ⟨by rw [HZ.out]; rfl, rfl⟩
end Go.Proofs.Ytbhoflmdhlchlaa
