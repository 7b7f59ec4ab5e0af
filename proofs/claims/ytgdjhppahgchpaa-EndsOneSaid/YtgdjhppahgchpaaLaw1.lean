/- LAYER 1: works. -/
import Derived.Test.YtgdjhppahgchpaaEnds7
import Derived.Test.YtgdjhppahgchpaaSame
namespace Go.Proofs.Ytgdjhppahgchpaa
open Go.RowKit

theorem works_put1 (w : World) : Calls Try.prog 8 #[.int .u64 258, .int .i64 2] w fun e w' => ∃ v', e = .returned (.tuple #[v', .int .i64 0]) ∧ Own w.heap.size w' v' [2, 1] ∧ Nx w w' := by
  have h := put_any 258 2 w
  rw [show putE 258 2 = 0 by decide, show putL 258 2 = [2, 1] by decide] at h
  exact h
theorem works_put2 (w : World) : Calls Try.prog 8 #[.int .u64 256, .int .i64 1] w fun e w' => ∃ v', e = .returned (.tuple #[v', .int .i64 2]) ∧ Own w.heap.size w' v' [] ∧ Nx w w' := by
  have h := put_any 256 1 w
  rw [show putE 256 1 = 2 by decide, show putL 256 1 = [] by decide] at h
  exact h
theorem works_gc (v : Value) (w : World) (h : Rd w v [253, 5, 0]) : Calls Try.prog 16 #[v, .int .i64 0] w fun e w' => e = .returned (.tuple #[.int .u64 0, .int .i64 0, .int .i64 5]) ∧ w = w' := by
  have h := getCount_any v _ 0 w h (by simp)
  rw [show gc [253, 5, 0] 0 = (0, 0, 5) by decide] at h
  exact h
theorem works_gr (v : Value) (w : World) (h : Rd w v [2, 7, 8]) : Calls Try.prog 18 #[v, .int .i64 0, .int .i64 2] w fun e w' => ∃ v', e = .returned (.tuple #[v', .int .i64 3, .int .i64 0]) ∧ Own w.heap.size w' v' [7, 8] ∧ Nx w w' := by
  have h := getRow_any v _ 0 2 w h (by simp) (by omega)
  rw [show gr [2, 7, 8] 0 2 = ([7, 8], 3, 0) by decide] at h
  exact h
theorem works_count (w : World) : Calls Try.prog 20 #[.int .u64 253] w fun e w' => ∃ v', e = .returned v' ∧ Own w.heap.size w' v' [253, 253, 0] ∧ Nx w w' := by
  have h := count_any 253 w
  rw [show countL 253 = [253, 253, 0] by decide] at h
  exact h

set_option maxHeartbeats 1000000 in
theorem works_any (w : World) : Calls Try.prog 15 #[] w fun e w' => e = .returned (.bool true) ∧ Nx w w' := by
  go_enter Try.func15, Try.ntmps15
  go_wp2_with fail
  refine (works_put1 w).mono ?_
  rintro e w1 ⟨v1, rfl, hown1, hb1⟩
  go_wp2_with fail
  refine (works_put2 w1).mono ?_
  rintro e w2 ⟨v2, rfl, hown2, hb2⟩
  go_wp2_with fail
  refine (get_is _ [2, 1, 5] 0 2 258 258 0 _ (Rd.lit _ _ _ _ _ rfl rfl (by simp) (by simp)) (by decide) rfl (by decide)).mono ?_
  rintro e w3 ⟨rfl, rfl⟩
  go_wp2_with fail
  refine (works_gc _ _ (Rd.lit _ _ _ _ _ rfl rfl (by simp) (by simp))).mono ?_
  rintro e w4 ⟨rfl, rfl⟩
  go_wp2_with fail
  refine (works_gr _ _ (Rd.lit _ _ _ _ _ rfl rfl (by simp) (by simp))).mono ?_
  rintro e w5 ⟨v5, rfl, hown5, hb5⟩
  have hn5 : Nx w w5 := ((((hb1.trans hb2).alloc _).alloc _).alloc _).trans hb5
  have hr1 : Rd w5 v1 [2, 1] := hown1.rd.nx ((((hb2.alloc _).alloc _).alloc _).trans hb5)
  have hr5 := hown5.rd
  clear hown1 hown5 hown2
  go_wp2_with fail
  refine (same_yes _ _ _ _ (hr1.alloc _) (Rd.lit _ [2, 1] _ _ _ rfl rfl (by simp) (by simp))).mono ?_
  rintro e w6 ⟨rfl, hb6⟩
  have hr5' : Rd w6 v5 [7, 8] := (hr5.alloc _).nx hb6
  have hn6 : Nx w w6 := (hn5.alloc _).trans hb6
  clear hr5 hr1 hb1 hb2 hb5 hn5 hb6
  go_wp2_with fail
  refine (same_yes _ _ _ _ (hr5'.alloc _) (Rd.lit _ [7, 8] _ _ _ rfl rfl (by simp) (by simp))).mono ?_
  rintro e w7 ⟨rfl, hb7⟩
  have hn7 : Nx w w7 := (hn6.alloc _).trans hb7
  clear hn6 hb7 hr5'
  go_wp2_with fail
  refine (works_count w7).mono ?_
  rintro e w8 ⟨v8, rfl, hown8, hb8⟩
  have hr8 := hown8.rd
  go_wp2_with fail
  refine (same_yes _ _ _ _ (hr8.alloc _) (Rd.lit _ [253, 253, 0] _ _ _ rfl rfl (by simp) (by simp))).mono ?_
  rintro e w9 ⟨rfl, hb9⟩
  go_wp2
  go_ret
  exact ⟨rfl, ((hn7.trans hb8).alloc _).trans hb9⟩
end Go.Proofs.Ytgdjhppahgchpaa
