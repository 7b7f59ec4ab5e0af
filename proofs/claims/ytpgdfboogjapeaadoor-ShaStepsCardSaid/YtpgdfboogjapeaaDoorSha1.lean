/- CONTRACTS OF LAYER 2: turn, mixed. -/
import Derived.Test.YtpgdfboogjapeaaDoorShaPure
import Derived.Test.YtpgdfboogjapeaaDoorRowU
namespace Go.Proofs.YtpgdfboogjapeaaDoor
open Go.RowKit
set_option linter.unusedVariables false
set_option linter.unusedSimpArgs false

set_option maxHeartbeats 400000 in
theorem turn_any (x m : Int) (n : Nat) (w : World) (hm : m = n) (h : Wd x) (hn : n ≤ 32) :
    Calls Tryd.prog 42 #[.int .u32 x, .int .u64 m] w fun e w' => e = .returned (.int .u32 (rotI x n)) ∧ w = w' := by
  obtain ⟨h0, h1⟩ := h
  subst hm
  have hn0 : (0 : Int) ≤ (n : Int) := by omega
  have hn1 : (n : Int) ≤ 32 := by omega
  go_enter Tryd.func42, Tryd.ntmps42
  go_wp2
  go_ret
  exact ⟨rfl, rfl⟩

theorem turn_st (x m : Int) (n : Nat) (hm : m = n) (h : Wd x) (hn : n ≤ 32) (w : World) :
    Calls Tryd.prog 42 #[.int .u32 x, .int .u64 m] w fun e w' => e = .returned (.int .u32 (rotI x n)) ∧ w' = w := (turn_any x m n w hm h hn).mono fun _ _ h => ⟨h.1, h.2.symm⟩

theorem turn_q (x m : Int) (n : Nat) (hm : m = n) (h : Wd x) (hn : n ≤ 32) (w : World) (k : Nat) :
    Calls Tryd.prog 42 #[.int .u32 x, .int .u64 m] (w.drewN k) fun e w' => e = .returned (.int .u32 (rotI x n)) ∧ ∃ j, w' = w.drewN j := (turn_any x m n _ hm h hn).mono fun _ _ h => ⟨h.1, k, h.2.symm⟩

theorem ints_size (k : IntKind) (l : List Int) : (ints k l).size = l.length := by simp [ints]
theorem ints_one (k : IntKind) (l : List Int) : (ints k l).all (·.oneCell') = true := by
  rw [Array.all_eq_true']
  intro x hx
  simp only [ints, List.mem_toArray, List.mem_map] at hx
  obtain ⟨y, _, rfl⟩ := hx
  rfl
theorem ints_set (k : IntKind) (l : List Int) (i : Nat) (x : Int) : (ints k l).setIfInBounds i (.int k x) = ints k (l.set i x) := by
  simp [ints, List.map_set]
section
variable {P : Program}
theorem run_index_ints (k : IntKind) (t e : TypeId) (n : Nat) (ht : P.underlying t = some (.array n e)) (hag : ∀ w, (isAgg e).run P w = .ok false w) (hsz : ∀ w, (sizeOf e).run P w = .ok 1 w)
    (l : List Int) (hl : l.length = n) (i : Nat) (h : i < l.length) (w : World) : (Instr.index t (.agg (ints k l)) (.int .i64 (i : Int))).run P w = .ok (.int k l[i]) w := by
  have hi : (0 : Int) ≤ (i : Int) ∧ (i : Int) < (n : Int) := by omega
  simp [Instr.index, asIntOf, run_underlying ht, hsz, part, hag, ints_get k l i h, hi]
  intro hh; omega
end
/-- The 64 numbers stand in their variable. -/
def KIs (w : World) : Prop := ∀ i, i < 64 → w.cell? ⟨0, i, none⟩ = some (.int .u32 (kL.getD i 0))
theorem KIs.nx {w w' : World} (h : KIs w) (k : Nx w w') : KIs w' := fun i hi => by
  have := h i hi
  rw [← this]
  refine k.cell (p := ⟨_, i, none⟩) ?_
  have h2 := this
  unfold World.cell? at h2
  by_cases hlt : 0 < w.heap.size
  · exact hlt
  · exfalso
    rw [Array.getElem?_eq_none (by omega)] at h2
    simp at h2

set_option maxRecDepth 100000 in
set_option maxHeartbeats 1000000 in
theorem mixed_any (s : St) (l : List Int) (w : World) (hs : s.ok) (hl : l.length = 64) (hk : KIs w) :
    Calls Tryd.prog 34 #[.agg (ints .u32 s.list), .agg (ints .u32 l)] w fun e w' => e = .returned (.agg (ints .u32 (s.go kL l 64).list)) ∧ Nx w w' := by
  have HK := Lib.hid hk
  clear hk
  replace hl := Lib.hid hl
  show Calls _ _ #[.agg #[.int .u32 s.a, .int .u32 s.b, .int .u32 s.c, .int .u32 s.d, .int .u32 s.e, .int .u32 s.f, .int .u32 s.g, .int .u32 s.h], .agg (ints .u32 l)] _ _
  go_enter Tryd.func34, Tryd.ntmps34
  go_wp2
  go_quiet (fail)
  have hz : (Tryd.prog.info? 42).map (·.size) = some (ints .u32 l).size := by rw [ints_size, hl.out]; kernel_rfl
  replace hz := Lib.hid hz
  go_wp2_with (refine wpList_load_row rfl 42 (.tmp 3) rfl (w.heap.size + 1) rfl 42 (ints .u32 l) (0, 0) _ (((Row.new2 w _ (ints .u32 l) 42).alloc _).drewN _) Tryd.underlying42 rfl hz.out ?_)
  have HX := Lib.hid (fun i (hi : i < l.length) w => run_index_ints (P := Tryd.prog) .u32 42 33 64 Tryd.underlying42 Tryd.isAgg33 Tryd.sizeOf33 l hl.out i hi w)
  have HG := Lib.hid (fun k => St.ok.go hs kL l k)
  go_loopw [5, 6, 7, 8, 9, 10, 11, 12, 34] (fun a b c d e f g h i wr => ∃ k : Nat, k ≤ 64 ∧ i = .int .i64 k ∧ a = .int .u32 (s.go kL l k).a ∧ b = .int .u32 (s.go kL l k).b ∧ c = .int .u32 (s.go kL l k).c ∧ d = .int .u32 (s.go kL l k).d ∧ e = .int .u32 (s.go kL l k).e ∧ f = .int .u32 (s.go kL l k).f ∧ g = .int .u32 (s.go kL l k).g ∧ h = .int .u32 (s.go kL l k).h ∧ Hid (Nx w wr) ∧ Row wr (w.heap.size + 1 + 1) (ints .u32 [0, 0, 0, 0, 0, 0, 0, 0]) 34) (fun _ _ _ _ _ _ _ _ i _ => 64 - (intOf i).toNat)
  case atStart =>
    refine ⟨0, by omega, rfl, rfl, rfl, rfl, rfl, rfl, rfl, rfl, rfl, ((((Nx.refl w).alloc _).alloc _).alloc _).drewN _, ?_⟩
    exact (Row.new3 _ _ _ _ _).drewN _
  case round =>
    obtain ⟨k, hk, rfl, rfl, rfl, rfl, rfl, rfl, rfl, rfl, rfl, HN, RR⟩ := hrel
    by_cases hlt : k < 64
    · have hkl : k < l.length := by have := hl.out; omega
      have hidx := HX.out k hkl
      have hkc := (HK.out.nx HN.out) k hlt
      have hst : (s.go kL l (k + 1)) = (s.go kL l k).step (kL.getD k 0) l[k] := by
        show (s.go kL l k).step (kL.getD k 0) (l.getD k 0) = _
        rw [show l.getD k 0 = l[k] by rw [List.getD_eq_getElem?_getD, List.getElem?_eq_getElem hkl]; rfl]
      have HO := HG.out k
      replace hst := Lib.hid hst
      generalize s.go kL l k = t at *
      obtain ⟨oa, ob, oc, od, oe, of, og, oh⟩ := HO
      clear hs HG HX
      replace oa := Lib.hid oa
      replace oe := Lib.hid oe
      clear ob oc od of og oh
      obtain ⟨a, b, c, d, e, f, g, h⟩ := t
      generalize l[k] = x at *
      generalize kL.getD k 0 = kk at *
      go_wp2
      go_quiet ((go_at_call 42; (with_reducible first | exact turn_q e 6 6 rfl oe.out (by decide) _ _ | exact turn_q e 11 11 rfl oe.out (by decide) _ _ | exact turn_q e 25 25 rfl oe.out (by decide) _ _)))
      go_wp2_with (go_at_call 42; first | ((with_reducible refine (turn_any a 2 2 _ rfl oa.out (by decide)).mono ?_); rintro e w' ⟨rfl, rfl⟩) | ((with_reducible refine (turn_any a 13 13 _ rfl oa.out (by decide)).mono ?_); rintro e w' ⟨rfl, rfl⟩) | ((with_reducible refine (turn_any a 22 22 _ rfl oa.out (by decide)).mono ?_); rintro e w' ⟨rfl, rfl⟩))
      go_roundw
      case rel =>
        refine ⟨k + 1, by omega, by go_num, ?_⟩
        rw [hst.out]
        exact ⟨rfl, rfl, rfl, rfl, rfl, rfl, rfl, rfl, HN.out.drewN _, RR.drewN _⟩
      case measure => simp [intOf]; omega
    · obtain rfl : k = 64 := by omega
      clear HX HG hs HK hl hz
      obtain ⟨t, ht⟩ : ∃ t, s.go kL l 64 = t := ⟨_, rfl⟩
      rw [ht]
      replace ht := Lib.hid ht
      obtain ⟨a, b, c, d, e, f, g, h⟩ := t
      have hl : w.heap.size ≤ w.heap.size + 1 + 1 := by omega
      have hz : (Tryd.prog.info? 34).map (·.size) = some (ints .u32 [a, b, c, d, e, f, g, h]).size := by rw [ints_size]; kernel_rfl
      replace hz := Lib.hid hz
      have ho : (ints .u32 [0, 0, 0, 0, 0, 0, 0, 0]).size = (ints .u32 [a, b, c, d, e, f, g, h]).size := by rw [ints_size, ints_size]; rfl
      replace ho := Lib.hid ho
      go_wp2_with (refine wpList_store_row rfl 34 (.tmp 4) (.tmp 104) rfl (w.heap.size + 1 + 1) (ints .u32 [a, b, c, d, e, f, g, h]) rfl rfl 34 (ints .u32 [0, 0, 0, 0, 0, 0, 0, 0]) RR hz.out ho.out (ints_one _ _) ?_)
      exact bodyPost_ret (results_cell_row Tryd.results34 _ _ (w.heap.size + 1 + 1) 34 (ints .u32 [a, b, c, d, e, f, g, h]) (0, 0) _ rfl (RR.setRow _) Tryd.underlying34 rfl hz.out) rfl ⟨by rw [ht.out]; rfl, HN.out.setRow _ hl⟩
end Go.Proofs.YtpgdfboogjapeaaDoor
