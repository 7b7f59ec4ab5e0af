/- LAYER 5: Beside of both sides; rows of numbers. -/
import Derived.Test.YtdbokmhkgkgnfaaPl7
import Derived.Test.YtdbokmhkgkgnfaaEl
namespace Go.Proofs.Ytdbokmhkgkgnfaa
open Go Go.RowKit
set_option linter.unusedVariables false
set_option linter.unusedSimpArgs false

def U64s (l : List Nat) : List Value := l.map fun (n : Nat) => Value.int .u64 (n : Int)
theorem U64s_length (l : List Nat) : (U64s l).length = l.length := by simp [U64s]
theorem U64s_app (a b : List Nat) : U64s (a ++ b) = U64s a ++ U64s b := by simp [U64s]
theorem U64s_one (l : List Nat) : ∀ u ∈ U64s l, u.oneCell' = true := by
  intro u hu
  simp only [U64s, List.mem_map] at hu
  obtain ⟨x, -, rfl⟩ := hu
  rfl
/-- numbers in a slice -/
def RdU (w : World) (v : Value) (l : List Nat) : Prop := RdF 1 w v l.length (U64s l)
def OwU (B : Nat) (w : World) (v : Value) (l : List Nat) : Prop := OwnF 22 1 B w v l.length (U64s l)
theorem OwU.rd {B : Nat} {w : World} {v : Value} {l : List Nat} (h : OwU B w v l) : RdU w v l := OwnF.rd h (U64s_one l)
theorem RdU.nx {w w' : World} {v : Value} {l : List Nat} (h : RdU w v l) (x : Nx w w') : RdU w' v l := RdF.nx h x
theorem RdU.one (w : World) (n : Nat) : RdU (w.alloc (.cells #[.int .u64 (n : Int)] 22)) (.slice (some ⟨w.heap.size, 0, none⟩) 1 1) [n] := by
  have R := Row.new w #[.int .u64 (n : Int)] 22 _ rfl
  refine ⟨rfl, U64s_one [n], _, _, rfl, Nat.le_refl _, by decide, fun _ => ⟨_, _, rfl, R.lt, fun j hj => ?_⟩⟩
  have : j = 0 := by simp [U64s] at hj; omega
  subst this
  exact R.cell rfl
theorem RdU.sl {w : World} {v : Value} {l : List Nat} (h : RdU w v l) : ∃ A c, v = .slice A l.length c ∧ (l.length ≤ c ∧ c ≤ maxLen) ∧ ∀ j (hj : j < l.length), ∃ b o, A = some ⟨b, o, none⟩ ∧ w.cell? ⟨b, o + j, none⟩ = some (.int .u64 (l[j] : Int)) := by
  obtain ⟨h0, h1, A, c, e, h2, h3, h4⟩ := h
  refine ⟨A, c, e, ⟨h2, h3⟩, fun j hj => ?_⟩
  obtain ⟨b, o, e2, hb, hc⟩ := h4 (by omega)
  refine ⟨b, o, e2, ?_⟩
  have := hc j (by rw [U64s_length]; exact hj)
  rw [this]
  simp [U64s]
def bsK (n : Nat) : Nat → List Nat
  | 0 => []
  | k + 1 => bsK n k ++ (if plE (plA n + trA (k : Int) 1 0) (plI n + trB (k : Int) 1 0) = 0 then [plN (plA n + trA (k : Int) 1 0) (plI n + trB (k : Int) 1 0)] else [])
theorem bsK_len (n k : Nat) : (bsK n k).length ≤ k := by
  induction k with
  | zero => simp [bsK]
  | succ k ih => simp only [bsK, List.length_append]; split <;> simp <;> omega
theorem info_u64 : (Try.prog.info? 22).map (fun i => (i.zero, i.size, i.bytes)) = some (some (.int .u64 0), 1, 8) := by kernel_rfl
theorem bsK_yes {n k : Nat} {x : Nat} (h : plE (plA n + trA (k : Int) 1 0) (plI n + trB (k : Int) 1 0) = 0) (hx : plN (plA n + trA (k : Int) 1 0) (plI n + trB (k : Int) 1 0) = x) : bsK n (k + 1) = bsK n k ++ [x] := by
  simp only [bsK, h, if_true, hx]
theorem bsK_no {n k : Nat} (h : ¬ plE (plA n + trA (k : Int) 1 0) (plI n + trB (k : Int) 1 0) = 0) : bsK n (k + 1) = bsK n k := by
  simp only [bsK, h, if_false, List.append_nil]
set_option maxRecDepth 100000 in
set_option maxHeartbeats 4000000 in
theorem beside_ok (n : Nat) (h : n < 2 ^ 40) (w : World) : Calls Try.prog 16 #[.int .u64 (n : Int)] w fun e w' => ∃ v, e = .returned (.tuple #[v, .int .i64 0]) ∧ OwU w.heap.size w' v (bsK n 4) ∧ Nx w w' := by
  have HO := Lib.hid (of_ok n h)
  have HB := Lib.hid (plA_bound n)
  clear h
  go_enter Try.func16, Try.ntmps16
  go_wp2_with fail
  refine (HO.out _).mono ?_
  rintro e w1 ⟨⟨p, q, rfl, hpq⟩, rfl⟩
  replace hpq := Lib.hid hpq
  go_wp2_with fail
  go_loopw [6, 18] (fun sv iv wr => ∃ k : Nat, iv = .int .i64 (k : Int) ∧ k ≤ 4 ∧ Hid (OwU w1.heap.size wr sv (bsK n k)) ∧ Hid (Nx w1 wr)) (fun _ iv _ => 4 - (intOf iv).toNat)
  case atStart => exact ⟨0, rfl, by decide, Lib.hid (OwnF.nil _ _ _ _), Lib.hid (Nx.refl _)⟩
  case round =>
    obtain ⟨k, rfl, hk, hown, HN⟩ := hrel
    by_cases hlt : k < 4
    · have hlt1 : (k : Int) < 4 := by omega
      have HI := Lib.hid hlt
      have HL := Lib.hid (bsK_len n k)
      clear hlt hk
      go_wp2_with fail
      refine (turn_any cf_10 (k : Int) _).mono ?_
      rintro e w2 ⟨⟨r, s, rfl, hrs⟩, rfl⟩
      have ht := tr_abs (k : Int) 1 0 1 (by decide) (by decide)
      have ka := run_cadd (P := Try.prog) hpq.out hrs (by have := HB.out; omega) (by have := HB.out; omega)
      have HC := Lib.hid (hpq.out.add hrs (by have := HB.out; omega) (by have := HB.out; omega)).2
      have hb1 : Hid ((plA n + trA (k : Int) 1 0).natAbs ≤ 16777216) := Lib.hid (by have := HB.out; omega)
      have hb2 : Hid ((plI n + trB (k : Int) 1 0).natAbs ≤ 16777216) := Lib.hid (by have := HB.out; omega)
      have HY := Lib.hid (fun x => bsK_yes (n := n) (k := k) (x := x))
      have HNo := Lib.hid (bsK_no (n := n) (k := k))
      clear ht hrs
      generalize plA n + trA (k : Int) 1 0 = X at *
      generalize plI n + trB (k : Int) 1 0 = Y at *
      generalize fadd p r = p2 at *
      generalize fadd q s = q2 at *
      have HBk := Lib.hid (back_any HC.out hb1.out hb2.out)
      generalize plE X Y = E at *
      generalize plN X Y = M at *
      clear HC hb1 hb2
      go_wp2_with fail
      refine (HBk.out _).mono ?_
      rintro e w3 ⟨rfl, rfl⟩
      by_cases hE : E = 0
      · have HS := Lib.hid (HY.out M hE rfl)
        subst hE
        go_wp2_with (at_builtin; refine wpList_appF rfl (.tmp 31) (.tmp 33) _ rfl 22 (.int .u64 0) 1 8 Try.underlying31 info_u64 rfl (by decide) w1.heap.size _ (.slice (some ⟨w3.heap.size, 0, none⟩) 1 1) (bsK n k).length 1 (U64s (bsK n k)) (U64s [M]) rfl rfl (OwnF.nx hown.out ((Nx.refl _).alloc _)) (RdU.one _ _) ?c2 ?c3 ?c4 ?_)
        case c2 => have := HL.out; have := HI.out; omega
        case c3 => have := HL.out; have := HI.out; simp only [maxLen]; omega
        case c4 => have := HN.out.size; simp; omega
        intro v' w' hown' hb' _ _
        have HO' : Hid (OwU w1.heap.size w' v' (bsK n (k + 1))) := Lib.hid (by rw [HS.out]; unfold OwU; rw [U64s_app, List.length_append]; exact hown')
        have HN' := Lib.hid ((HN.out.alloc (.cells #[.int .u64 (M : Int)] 22)).app hb')
        clear hown' hb'
        go_wp2_with fail
        go_roundw
        case rel => exact ⟨k + 1, by go_num, HI.out, HO', HN'⟩
        case measure => have := HI.out; simp [intOf]; omega
      · have HS := Lib.hid (HNo.out hE)
        go_wp2_with fail
        go_roundw
        case rel => exact ⟨k + 1, by go_num, HI.out, by rw [HS.out]; exact hown, HN⟩
        case measure => have := HI.out; simp [intOf]; omega
    · obtain rfl : k = 4 := by omega
      clear hlt hk
      go_wp2_with fail
      go_ret2
      exact ⟨_, rfl, hown.out, HN.out⟩
theorem beside_far (n : Nat) (h : ¬ n < 2 ^ 40) (hn : n < 18446744073709551616) (w : World) : Calls Try.prog 16 #[.int .u64 (n : Int)] w fun e w' => e = .returned (.tuple #[.slice none 0 0, .int .i64 3]) ∧ w' = w := by
  have HO := Lib.hid (of_far n h hn)
  clear h hn
  go_enter Try.func16, Try.ntmps16
  go_wp2_with fail
  refine (HO.out _).mono ?_
  rintro e w1 ⟨rfl, rfl⟩
  go_wp2_with fail
  go_ret2
  exact ⟨rfl, rfl⟩
end Go.Proofs.Ytdbokmhkgkgnfaa
