/- THE REFERENCE OF LAYER 3: Add, Sub. -/
import Derived.Test.YtggemncdnclhnaaRefSum
import Derived.Deep.Upon
namespace Go.Proofs.Ytggemncdnclhnaa
open Go.RowKit
set_option linter.unusedVariables false
set_option linter.unusedSimpArgs false

theorem Row.there {w : World} {g : Nat} {cs : Array Value} {t : TypeId} (h : Row w g cs t) (n : Nat) (hn : n ≤ cs.size) : w.there g 0 n := fun j hj => by
  rw [Nat.zero_add]
  refine ⟨?_, h.frozen j⟩
  rw [h.cell (v := cs[j]'(by omega)) (by simp [show j < cs.size by omega])]
  rfl
theorem Row.cells_other {w : World} {g k : Nat} {cs : Array Value} {t : TypeId} (h : Row w g cs t) (o : Nat) (vs : List Value) (hk : g ≠ k) : Row (w.setCells k o vs) g cs t := by
  unfold Row
  rw [World.heap_setCells_other w k o vs h.lt hk]; exact h
theorem below_setCells_nx {B b : Nat} {a : World} (hb : B ≤ b) : ∀ (vs : List Value) (o : Nat) (w : World), Below B a w → Below B a (w.setCells b o vs)
  | [], _, _, h => h
  | v :: r, o, w, h => below_setCells_nx hb r (o + 1) _ (h.setCell hb v)
theorem Nx.setCells {a b : World} (h : Nx a b) (k o : Nat) (vs : List Value) (hp : a.heap.size ≤ k) : Nx a (b.setCells k o vs) := below_setCells_nx hp vs o b h
theorem info_bits_l (l : List Bool) (h : l.length = 256) : (Try.prog.info? 60).map (·.size) = some (l.map Value.bool).length := by
  rw [List.length_map, h]; exact (zero_of_info info_bits).2

set_option maxHeartbeats 4000000 in
theorem refAdd_any (a b : Nat) (w : World) (ha : a < top) (hb : b < top) :
    Calls Try.prog 27 #[.agg #[.int .u64 (lim a 0 : Int), .int .u64 (lim a 1 : Int), .int .u64 (lim a 2 : Int), .int .u64 (lim a 3 : Int)], .agg #[.int .u64 (lim b 0 : Int), .int .u64 (lim b 1 : Int), .int .u64 (lim b 2 : Int), .int .u64 (lim b 3 : Int)]] w fun e w' => e = .returned (.tuple #[.agg #[.int .u64 (lim (a + b) 0 : Int), .int .u64 (lim (a + b) 1 : Int), .int .u64 (lim (a + b) 2 : Int), .int .u64 (lim (a + b) 3 : Int)], .bool (addB a b)]) ∧ Nx w w' := by
  obtain ⟨hz, hs⟩ := zero_of_info info_bits
  have HB1 := Lib.hid (fun w => refBits_any a w)
  have HB2 := Lib.hid (fun w => refBits_any b w)
  have HS := Lib.hid (fun w => refSum_any a b false w ha hb)
  have HN : Hid (∀ w, Calls Try.prog 57 #[.agg (List.toArray ((bitsL (a + b)).map Value.bool))] w fun e w' => e = .returned (.agg #[.int .u64 (lim (a + b) 0 : Int), .int .u64 (lim (a + b) 1 : Int), .int .u64 (lim (a + b) 2 : Int), .int .u64 (lim (a + b) 3 : Int)]) ∧ Nx w w') := Lib.hid (fun w => refNumber_any (a + b) w)
  have hsz := info_bits_l (bitsL (a + b)) (bitsL_length _)
  have hone : ∀ v ∈ (bitsL (a + b)).map Value.bool, v.oneCell' = true := by
    intro v hv
    simp only [List.mem_map] at hv
    obtain ⟨x, _, rfl⟩ := hv
    rfl
  replace hs := Lib.hid hs
  replace hone := Lib.hid hone
  replace hsz := Lib.hid hsz
  have hun := Try.underlying60
  clear ha hb
  go_enter Try.func27, Try.ntmps27
  go_wp2_with fail
  have hrw := Try.ntmps27
  clear hrw
  have RA := ((Row.new w #[.int .u64 (lim a 0 : Int), .int .u64 (lim a 1 : Int), .int .u64 (lim a 2 : Int), .int .u64 (lim a 3 : Int)] 24 _ rfl).alloc (.cells #[.int .u64 (lim b 0 : Int), .int .u64 (lim b 1 : Int), .int .u64 (lim b 2 : Int), .int .u64 (lim b 3 : Int)] 24)).alloc (.cells #[.int .u64 0, .int .u64 0, .int .u64 0, .int .u64 0] 24)
  have RB := (Row.new2 w (.cells #[.int .u64 (lim a 0 : Int), .int .u64 (lim a 1 : Int), .int .u64 (lim a 2 : Int), .int .u64 (lim a 3 : Int)] 24) #[.int .u64 (lim b 0 : Int), .int .u64 (lim b 1 : Int), .int .u64 (lim b 2 : Int), .int .u64 (lim b 3 : Int)] 24).alloc (.cells #[.int .u64 0, .int .u64 0, .int .u64 0, .int .u64 0] 24)
  have RZ := Row.new3 w (.cells #[.int .u64 (lim a 0 : Int), .int .u64 (lim a 1 : Int), .int .u64 (lim a 2 : Int), .int .u64 (lim a 3 : Int)] 24) (.cells #[.int .u64 (lim b 0 : Int), .int .u64 (lim b 1 : Int), .int .u64 (lim b 2 : Int), .int .u64 (lim b 3 : Int)] 24) #[.int .u64 0, .int .u64 0, .int .u64 0, .int .u64 0] 24
  have N := Lib.hid ((((Nx.refl w).alloc (.cells #[.int .u64 (lim a 0 : Int), .int .u64 (lim a 1 : Int), .int .u64 (lim a 2 : Int), .int .u64 (lim a 3 : Int)] 24)).alloc (.cells #[.int .u64 (lim b 0 : Int), .int .u64 (lim b 1 : Int), .int .u64 (lim b 2 : Int), .int .u64 (lim b 3 : Int)] 24)).alloc (.cells #[.int .u64 0, .int .u64 0, .int .u64 0, .int .u64 0] 24))
  generalize (((w.alloc (.cells #[.int .u64 (lim a 0 : Int), .int .u64 (lim a 1 : Int), .int .u64 (lim a 2 : Int), .int .u64 (lim a 3 : Int)] 24)).alloc (.cells #[.int .u64 (lim b 0 : Int), .int .u64 (lim b 1 : Int), .int .u64 (lim b 2 : Int), .int .u64 (lim b 3 : Int)] 24)).alloc (.cells #[.int .u64 0, .int .u64 0, .int .u64 0, .int .u64 0] 24)) = W at *
  replace RZ := Lib.hid RZ
  have HL := Lib.hid (show ((bitsL (a + b)).map Value.bool).toArray.size ≤ (bcel zb).size by rw [List.size_toArray, List.length_map, bitsL_length, bcel_size, zb, List.length_replicate]; exact Nat.le_refl _)
  go_region_held3 (fun w' => w'.cell? ⟨w.heap.size, 0, none⟩ = some (.int .u64 (lim a 0 : Int)) ∧ w'.cell? ⟨w.heap.size, 1, none⟩ = some (.int .u64 (lim a 1 : Int)) ∧ w'.cell? ⟨w.heap.size, 2, none⟩ = some (.int .u64 (lim a 2 : Int)) ∧ w'.cell? ⟨w.heap.size, 3, none⟩ = some (.int .u64 (lim a 3 : Int)) ∧ w'.cell? ⟨w.heap.size + 1, 0, none⟩ = some (.int .u64 (lim b 0 : Int)) ∧ w'.cell? ⟨w.heap.size + 1, 1, none⟩ = some (.int .u64 (lim b 1 : Int)) ∧ w'.cell? ⟨w.heap.size + 1, 2, none⟩ = some (.int .u64 (lim b 2 : Int)) ∧ w'.cell? ⟨w.heap.size + 1, 3, none⟩ = some (.int .u64 (lim b 3 : Int)))
    (first | with_reducible exact ⟨(RA).four.1, (RA).four.2.1, (RA).four.2.2.1, (RA).four.2.2.2, (RB).four⟩ | with_reducible exact ⟨(RA.drew).four.1, (RA.drew).four.2.1, (RA.drew).four.2.2.1, (RA.drew).four.2.2.2, (RB.drew).four⟩ | with_reducible exact ⟨((RA.alloc _).drew).four.1, ((RA.alloc _).drew).four.2.1, ((RA.alloc _).drew).four.2.2.1, ((RA.alloc _).drew).four.2.2.2, ((RB.alloc _).drew).four⟩ | with_reducible exact ⟨(RA.alloc _).four.1, (RA.alloc _).four.2.1, (RA.alloc _).four.2.2.1, (RA.alloc _).four.2.2.2, (RB.alloc _).four⟩ | with_reducible exact ⟨(RA.cells_other 0 _ (by have := RZ.out.lt; omega)).four.1, (RA.cells_other 0 _ (by have := RZ.out.lt; omega)).four.2.1, (RA.cells_other 0 _ (by have := RZ.out.lt; omega)).four.2.2.1, (RA.cells_other 0 _ (by have := RZ.out.lt; omega)).four.2.2.2, (RB.cells_other 0 _ (by have := RZ.out.lt; omega)).four⟩ | with_reducible exact ⟨((RA.alloc _).cells_other 0 _ (by have := RZ.out.lt; omega)).four.1, ((RA.alloc _).cells_other 0 _ (by have := RZ.out.lt; omega)).four.2.1, ((RA.alloc _).cells_other 0 _ (by have := RZ.out.lt; omega)).four.2.2.1, ((RA.alloc _).cells_other 0 _ (by have := RZ.out.lt; omega)).four.2.2.2, ((RB.alloc _).cells_other 0 _ (by have := RZ.out.lt; omega)).four⟩ | go_keep)
    (first
      | (go_at_call 53; (with_reducible (first | refine (HB1.out _).mono ?_ | refine (HB2.out _).mono ?_)); rintro e w8 ⟨rfl, hb8⟩; have HG := RZ.out.lt
         (first | with_reducible replace RA := RA.nx hb8 | with_reducible replace RA := RA.drew.nx hb8 | with_reducible replace RA := (RA.alloc _).nx hb8 | with_reducible replace RA := (RA.alloc _).drew.nx hb8)
         (first | with_reducible replace RB := RB.nx hb8 | with_reducible replace RB := RB.drew.nx hb8 | with_reducible replace RB := (RB.alloc _).nx hb8 | with_reducible replace RB := (RB.alloc _).drew.nx hb8)
         (first | with_reducible replace RZ := Lib.hid (RZ.out.nx hb8) | with_reducible replace RZ := Lib.hid (RZ.out.drew.nx hb8) | with_reducible replace RZ := Lib.hid ((RZ.out.alloc _).nx hb8) | with_reducible replace RZ := Lib.hid ((RZ.out.alloc _).drew.nx hb8))
         (first | with_reducible replace N := Lib.hid (N.out.trans hb8) | with_reducible replace N := Lib.hid (N.out.drew.trans hb8) | with_reducible replace N := Lib.hid ((N.out.alloc _).trans hb8) | with_reducible replace N := Lib.hid ((N.out.alloc _).drew.trans hb8))
         (first | with_reducible replace RT := Lib.hid (RT.out.nx hb8) | (with_reducible have RT := Lib.hid ((Row.new _ _ _ _ rfl).nx hb8); have HT := Lib.hid HG) | (with_reducible have RT := Lib.hid ((Row.new _ _ _ _ rfl).drew.nx hb8); have HT := Lib.hid HG) | skip)
         -- with_reducible have RT := Lib.hid ((Row.new _ _ _ _ rfl).nx hb8) | with_reducible have RT := Lib.hid ((Row.new _ _ _ _ rfl).drew.nx hb8) | skip)
         clear hb8)
      | (go_at_call 56; (with_reducible refine (HS.out _).mono ?_); rintro e w8 ⟨rfl, hb8⟩; have HG := RZ.out.lt
         (first | with_reducible replace RA := RA.nx hb8 | with_reducible replace RA := RA.drew.nx hb8 | with_reducible replace RA := (RA.alloc _).nx hb8 | with_reducible replace RA := (RA.alloc _).drew.nx hb8)
         (first | with_reducible replace RB := RB.nx hb8 | with_reducible replace RB := RB.drew.nx hb8 | with_reducible replace RB := (RB.alloc _).nx hb8 | with_reducible replace RB := (RB.alloc _).drew.nx hb8)
         (first | with_reducible replace RZ := Lib.hid (RZ.out.nx hb8) | with_reducible replace RZ := Lib.hid (RZ.out.drew.nx hb8) | with_reducible replace RZ := Lib.hid ((RZ.out.alloc _).nx hb8) | with_reducible replace RZ := Lib.hid ((RZ.out.alloc _).drew.nx hb8))
         (first | with_reducible replace N := Lib.hid (N.out.trans hb8) | with_reducible replace N := Lib.hid (N.out.drew.trans hb8) | with_reducible replace N := Lib.hid ((N.out.alloc _).trans hb8) | with_reducible replace N := Lib.hid ((N.out.alloc _).drew.trans hb8))
         (first | with_reducible replace RT := Lib.hid (RT.out.nx hb8) | (with_reducible have RT := Lib.hid ((Row.new _ _ _ _ rfl).nx hb8); have HT := Lib.hid HG) | (with_reducible have RT := Lib.hid ((Row.new _ _ _ _ rfl).drew.nx hb8); have HT := Lib.hid HG) | skip)
         -- with_reducible have RT := Lib.hid ((Row.new _ _ _ _ rfl).nx hb8) | with_reducible have RT := Lib.hid ((Row.new _ _ _ _ rfl).drew.nx hb8) | skip)
         (first | have TH := RT.out.there _ HL.out | have TH := (Row.new w8 (bcel zb) 60 _ rfl).there _ HL.out)
         clear hb8))
  all_goals
    rw [List.size_toArray] at TH
    have RF := Lib.hid (World.rangeAt_setCells_same _ _ 0 _ TH)
    (first | (have RZ' := RZ.out.cells_other 0 ((bitsL (a + b)).map Value.bool) (k := _) (Nat.ne_of_lt HT.out)) | (have RZ' := (RZ.out.alloc (.cells (bcel zb) 60)).cells_other 0 ((bitsL (a + b)).map Value.bool) (k := w8.heap.size) (Nat.ne_of_lt RZ.out.lt)))
    (first | (have N' := Lib.hid (N.out.setCells _ 0 ((bitsL (a + b)).map Value.bool) (Nat.le_of_lt (Nat.lt_of_le_of_lt (Nat.le_add_right _ 2) HT.out)))) | (have N' := Lib.hid ((N.out.alloc (.cells (bcel zb) 60)).setCells w8.heap.size 0 ((bitsL (a + b)).map Value.bool) N.out.size)))
    clear TH N RZ RA RB HB1 HB2 HS HL hz hone
    go_wp2_with (first | (refine wpList_load_mid rfl 60 (.tmp 6) rfl _ 0 rfl _ _ RF.out Try.underlying60 rfl hsz.out ?_) | fail)
    refine (HN.out _).mono ?_
    rintro e w9 ⟨rfl, hb9⟩
    obtain ⟨z0, z1, z2, z3⟩ := (RZ'.nx hb9).zero4
    have f1 := (RZ'.nx hb9).frozen
    replace N' := Lib.hid (N'.out.trans hb9)
    clear hb9 RZ' RF
    go_wp2
    exact bodyPost_ret (v := .tuple #[.agg #[.int .u64 (lim (a + b) 0 : Int), .int .u64 (lim (a + b) 1 : Int), .int .u64 (lim (a + b) 2 : Int), .int .u64 (lim (a + b) 3 : Int)], .bool (decide (top ≤ a + b))]) (by simp [results, Try.results27, go_sem, z0, z1, z2, z3, f1]) rfl
      ⟨rfl, by repeat (first | with_reducible exact N'.out | with_reducible apply Nx.drew | with_reducible refine Nx.setAt ?_ _ (by omega))⟩
theorem turnN_lt (b : Nat) : turnN b < top := by
  unfold turnN
  have : 0 < top := by decide
  omega
theorem not_above (a b : Nat) (ha : a < top) (hb : b < top) : (!decide (top ≤ a + turnN b + 1)) = subB a b := by
  unfold turnN subB
  by_cases h : a < b
  · simp [h]; omega
  · simp [h]; omega

set_option maxHeartbeats 4000000 in
theorem refSub_any (a b : Nat) (w : World) (ha : a < top) (hb : b < top) :
    Calls Try.prog 29 #[.agg #[.int .u64 (lim a 0 : Int), .int .u64 (lim a 1 : Int), .int .u64 (lim a 2 : Int), .int .u64 (lim a 3 : Int)], .agg #[.int .u64 (lim b 0 : Int), .int .u64 (lim b 1 : Int), .int .u64 (lim b 2 : Int), .int .u64 (lim b 3 : Int)]] w fun e w' => e = .returned (.tuple #[.agg #[.int .u64 (lim (a + turnN b + 1) 0 : Int), .int .u64 (lim (a + turnN b + 1) 1 : Int), .int .u64 (lim (a + turnN b + 1) 2 : Int), .int .u64 (lim (a + turnN b + 1) 3 : Int)], .bool (subB a b)]) ∧ Nx w w' := by
  obtain ⟨hz, hs⟩ := zero_of_info info_bits
  have HB1 := Lib.hid (fun w => refBits_any a w)
  have HB2 := Lib.hid (fun w => refBits_any b w)
  have HS := Lib.hid (fun w => refSum_any a (turnN b) true w ha (turnN_lt b))
  have HNOT := Lib.hid (fun w => refNot_any b w hb)
  have HE := Lib.hid (not_above a b ha hb)
  have HN : Hid (∀ w, Calls Try.prog 57 #[.agg (List.toArray ((bitsL (a + turnN b + 1)).map Value.bool))] w fun e w' => e = .returned (.agg #[.int .u64 (lim (a + turnN b + 1) 0 : Int), .int .u64 (lim (a + turnN b + 1) 1 : Int), .int .u64 (lim (a + turnN b + 1) 2 : Int), .int .u64 (lim (a + turnN b + 1) 3 : Int)]) ∧ Nx w w') := Lib.hid (fun w => refNumber_any (a + turnN b + 1) w)
  have hsz := info_bits_l (bitsL (a + turnN b + 1)) (bitsL_length _)
  have hone : ∀ v ∈ (bitsL (a + turnN b + 1)).map Value.bool, v.oneCell' = true := by
    intro v hv
    simp only [List.mem_map] at hv
    obtain ⟨x, _, rfl⟩ := hv
    rfl
  replace hs := Lib.hid hs
  replace hone := Lib.hid hone
  replace hsz := Lib.hid hsz
  have hun := Try.underlying60
  clear ha hb
  go_enter Try.func29, Try.ntmps29
  go_wp2_with fail
  have hrw := Try.ntmps29
  clear hrw
  have RA := ((Row.new w #[.int .u64 (lim a 0 : Int), .int .u64 (lim a 1 : Int), .int .u64 (lim a 2 : Int), .int .u64 (lim a 3 : Int)] 24 _ rfl).alloc (.cells #[.int .u64 (lim b 0 : Int), .int .u64 (lim b 1 : Int), .int .u64 (lim b 2 : Int), .int .u64 (lim b 3 : Int)] 24)).alloc (.cells #[.int .u64 0, .int .u64 0, .int .u64 0, .int .u64 0] 24)
  have RB := (Row.new2 w (.cells #[.int .u64 (lim a 0 : Int), .int .u64 (lim a 1 : Int), .int .u64 (lim a 2 : Int), .int .u64 (lim a 3 : Int)] 24) #[.int .u64 (lim b 0 : Int), .int .u64 (lim b 1 : Int), .int .u64 (lim b 2 : Int), .int .u64 (lim b 3 : Int)] 24).alloc (.cells #[.int .u64 0, .int .u64 0, .int .u64 0, .int .u64 0] 24)
  have RZ := Row.new3 w (.cells #[.int .u64 (lim a 0 : Int), .int .u64 (lim a 1 : Int), .int .u64 (lim a 2 : Int), .int .u64 (lim a 3 : Int)] 24) (.cells #[.int .u64 (lim b 0 : Int), .int .u64 (lim b 1 : Int), .int .u64 (lim b 2 : Int), .int .u64 (lim b 3 : Int)] 24) #[.int .u64 0, .int .u64 0, .int .u64 0, .int .u64 0] 24
  have N := Lib.hid ((((Nx.refl w).alloc (.cells #[.int .u64 (lim a 0 : Int), .int .u64 (lim a 1 : Int), .int .u64 (lim a 2 : Int), .int .u64 (lim a 3 : Int)] 24)).alloc (.cells #[.int .u64 (lim b 0 : Int), .int .u64 (lim b 1 : Int), .int .u64 (lim b 2 : Int), .int .u64 (lim b 3 : Int)] 24)).alloc (.cells #[.int .u64 0, .int .u64 0, .int .u64 0, .int .u64 0] 24))
  generalize (((w.alloc (.cells #[.int .u64 (lim a 0 : Int), .int .u64 (lim a 1 : Int), .int .u64 (lim a 2 : Int), .int .u64 (lim a 3 : Int)] 24)).alloc (.cells #[.int .u64 (lim b 0 : Int), .int .u64 (lim b 1 : Int), .int .u64 (lim b 2 : Int), .int .u64 (lim b 3 : Int)] 24)).alloc (.cells #[.int .u64 0, .int .u64 0, .int .u64 0, .int .u64 0] 24)) = W at *
  replace RZ := Lib.hid RZ
  have HL := Lib.hid (show ((bitsL (a + turnN b + 1)).map Value.bool).toArray.size ≤ (bcel zb).size by rw [List.size_toArray, List.length_map, bitsL_length, bcel_size, zb, List.length_replicate]; exact Nat.le_refl _)
  go_region_held3 (fun w' => w'.cell? ⟨w.heap.size, 0, none⟩ = some (.int .u64 (lim a 0 : Int)) ∧ w'.cell? ⟨w.heap.size, 1, none⟩ = some (.int .u64 (lim a 1 : Int)) ∧ w'.cell? ⟨w.heap.size, 2, none⟩ = some (.int .u64 (lim a 2 : Int)) ∧ w'.cell? ⟨w.heap.size, 3, none⟩ = some (.int .u64 (lim a 3 : Int)) ∧ w'.cell? ⟨w.heap.size + 1, 0, none⟩ = some (.int .u64 (lim b 0 : Int)) ∧ w'.cell? ⟨w.heap.size + 1, 1, none⟩ = some (.int .u64 (lim b 1 : Int)) ∧ w'.cell? ⟨w.heap.size + 1, 2, none⟩ = some (.int .u64 (lim b 2 : Int)) ∧ w'.cell? ⟨w.heap.size + 1, 3, none⟩ = some (.int .u64 (lim b 3 : Int)))
    (first | with_reducible exact ⟨(RA).four.1, (RA).four.2.1, (RA).four.2.2.1, (RA).four.2.2.2, (RB).four⟩ | with_reducible exact ⟨(RA.drew).four.1, (RA.drew).four.2.1, (RA.drew).four.2.2.1, (RA.drew).four.2.2.2, (RB.drew).four⟩ | with_reducible exact ⟨((RA.alloc _).drew).four.1, ((RA.alloc _).drew).four.2.1, ((RA.alloc _).drew).four.2.2.1, ((RA.alloc _).drew).four.2.2.2, ((RB.alloc _).drew).four⟩ | with_reducible exact ⟨(RA.alloc _).four.1, (RA.alloc _).four.2.1, (RA.alloc _).four.2.2.1, (RA.alloc _).four.2.2.2, (RB.alloc _).four⟩ | with_reducible exact ⟨(RA.cells_other 0 _ (by have := RZ.out.lt; omega)).four.1, (RA.cells_other 0 _ (by have := RZ.out.lt; omega)).four.2.1, (RA.cells_other 0 _ (by have := RZ.out.lt; omega)).four.2.2.1, (RA.cells_other 0 _ (by have := RZ.out.lt; omega)).four.2.2.2, (RB.cells_other 0 _ (by have := RZ.out.lt; omega)).four⟩ | with_reducible exact ⟨((RA.alloc _).cells_other 0 _ (by have := RZ.out.lt; omega)).four.1, ((RA.alloc _).cells_other 0 _ (by have := RZ.out.lt; omega)).four.2.1, ((RA.alloc _).cells_other 0 _ (by have := RZ.out.lt; omega)).four.2.2.1, ((RA.alloc _).cells_other 0 _ (by have := RZ.out.lt; omega)).four.2.2.2, ((RB.alloc _).cells_other 0 _ (by have := RZ.out.lt; omega)).four⟩ | go_keep)
    (first
      | (go_at_call 53; (with_reducible (first | refine (HB1.out _).mono ?_ | refine (HB2.out _).mono ?_)); rintro e w8 ⟨rfl, hb8⟩; have HG := RZ.out.lt
         (first | with_reducible replace RA := RA.nx hb8 | with_reducible replace RA := RA.drew.nx hb8 | with_reducible replace RA := (RA.alloc _).nx hb8 | with_reducible replace RA := (RA.alloc _).drew.nx hb8)
         (first | with_reducible replace RB := RB.nx hb8 | with_reducible replace RB := RB.drew.nx hb8 | with_reducible replace RB := (RB.alloc _).nx hb8 | with_reducible replace RB := (RB.alloc _).drew.nx hb8)
         (first | with_reducible replace RZ := Lib.hid (RZ.out.nx hb8) | with_reducible replace RZ := Lib.hid (RZ.out.drew.nx hb8) | with_reducible replace RZ := Lib.hid ((RZ.out.alloc _).nx hb8) | with_reducible replace RZ := Lib.hid ((RZ.out.alloc _).drew.nx hb8))
         (first | with_reducible replace N := Lib.hid (N.out.trans hb8) | with_reducible replace N := Lib.hid (N.out.drew.trans hb8) | with_reducible replace N := Lib.hid ((N.out.alloc _).trans hb8) | with_reducible replace N := Lib.hid ((N.out.alloc _).drew.trans hb8))
         (first | with_reducible replace RT := Lib.hid (RT.out.nx hb8) | (with_reducible have RT := Lib.hid ((Row.new _ _ _ _ rfl).nx hb8); have HT := Lib.hid HG) | (with_reducible have RT := Lib.hid ((Row.new _ _ _ _ rfl).drew.nx hb8); have HT := Lib.hid HG) | skip)
         -- with_reducible have RT := Lib.hid ((Row.new _ _ _ _ rfl).nx hb8) | with_reducible have RT := Lib.hid ((Row.new _ _ _ _ rfl).drew.nx hb8) | skip)
         clear hb8)
      | (go_at_call 58; (with_reducible refine (HNOT.out _).mono ?_); rintro e w8 ⟨rfl, hb8⟩; have HG := RZ.out.lt
         (first | with_reducible replace RA := RA.nx hb8 | with_reducible replace RA := RA.drew.nx hb8 | with_reducible replace RA := (RA.alloc _).nx hb8 | with_reducible replace RA := (RA.alloc _).drew.nx hb8)
         (first | with_reducible replace RB := RB.nx hb8 | with_reducible replace RB := RB.drew.nx hb8 | with_reducible replace RB := (RB.alloc _).nx hb8 | with_reducible replace RB := (RB.alloc _).drew.nx hb8)
         (first | with_reducible replace RZ := Lib.hid (RZ.out.nx hb8) | with_reducible replace RZ := Lib.hid (RZ.out.drew.nx hb8) | with_reducible replace RZ := Lib.hid ((RZ.out.alloc _).nx hb8) | with_reducible replace RZ := Lib.hid ((RZ.out.alloc _).drew.nx hb8))
         (first | with_reducible replace N := Lib.hid (N.out.trans hb8) | with_reducible replace N := Lib.hid (N.out.drew.trans hb8) | with_reducible replace N := Lib.hid ((N.out.alloc _).trans hb8) | with_reducible replace N := Lib.hid ((N.out.alloc _).drew.trans hb8))
         (first | with_reducible replace RT := Lib.hid (RT.out.nx hb8) | (with_reducible have RT := Lib.hid ((Row.new _ _ _ _ rfl).nx hb8); have HT := Lib.hid HG) | (with_reducible have RT := Lib.hid ((Row.new _ _ _ _ rfl).drew.nx hb8); have HT := Lib.hid HG) | skip)
         -- with_reducible have RT := Lib.hid ((Row.new _ _ _ _ rfl).nx hb8) | with_reducible have RT := Lib.hid ((Row.new _ _ _ _ rfl).drew.nx hb8) | skip)
         clear hb8)
      | (go_at_call 56; (with_reducible refine (HS.out _).mono ?_); rintro e w8 ⟨rfl, hb8⟩; have HG := RZ.out.lt
         (first | with_reducible replace RA := RA.nx hb8 | with_reducible replace RA := RA.drew.nx hb8 | with_reducible replace RA := (RA.alloc _).nx hb8 | with_reducible replace RA := (RA.alloc _).drew.nx hb8)
         (first | with_reducible replace RB := RB.nx hb8 | with_reducible replace RB := RB.drew.nx hb8 | with_reducible replace RB := (RB.alloc _).nx hb8 | with_reducible replace RB := (RB.alloc _).drew.nx hb8)
         (first | with_reducible replace RZ := Lib.hid (RZ.out.nx hb8) | with_reducible replace RZ := Lib.hid (RZ.out.drew.nx hb8) | with_reducible replace RZ := Lib.hid ((RZ.out.alloc _).nx hb8) | with_reducible replace RZ := Lib.hid ((RZ.out.alloc _).drew.nx hb8))
         (first | with_reducible replace N := Lib.hid (N.out.trans hb8) | with_reducible replace N := Lib.hid (N.out.drew.trans hb8) | with_reducible replace N := Lib.hid ((N.out.alloc _).trans hb8) | with_reducible replace N := Lib.hid ((N.out.alloc _).drew.trans hb8))
         (first | with_reducible replace RT := Lib.hid (RT.out.nx hb8) | (with_reducible have RT := Lib.hid ((Row.new _ _ _ _ rfl).nx hb8); have HT := Lib.hid HG) | (with_reducible have RT := Lib.hid ((Row.new _ _ _ _ rfl).drew.nx hb8); have HT := Lib.hid HG) | skip)
         -- with_reducible have RT := Lib.hid ((Row.new _ _ _ _ rfl).nx hb8) | with_reducible have RT := Lib.hid ((Row.new _ _ _ _ rfl).drew.nx hb8) | skip)
         (first | have TH := RT.out.there _ HL.out | have TH := (Row.new w8 (bcel zb) 60 _ rfl).there _ HL.out)
         clear hb8))
  all_goals
    rw [List.size_toArray] at TH
    have RF := Lib.hid (World.rangeAt_setCells_same _ _ 0 _ TH)
    (first | (have RZ' := RZ.out.cells_other 0 ((bitsL (a + turnN b + 1)).map Value.bool) (k := _) (Nat.ne_of_lt HT.out)) | (have RZ' := (RZ.out.alloc (.cells (bcel zb) 60)).cells_other 0 ((bitsL (a + turnN b + 1)).map Value.bool) (k := w8.heap.size) (Nat.ne_of_lt RZ.out.lt)))
    (first | (have N' := Lib.hid (N.out.setCells _ 0 ((bitsL (a + turnN b + 1)).map Value.bool) (Nat.le_of_lt (Nat.lt_of_le_of_lt (Nat.le_add_right _ 2) HT.out)))) | (have N' := Lib.hid ((N.out.alloc (.cells (bcel zb) 60)).setCells w8.heap.size 0 ((bitsL (a + turnN b + 1)).map Value.bool) N.out.size)))
    clear TH N RZ RA RB HB1 HB2 HS HL hz hone HNOT
    go_wp2_with (first | (refine wpList_load_mid rfl 60 (.tmp 6) rfl _ 0 rfl _ _ RF.out Try.underlying60 rfl hsz.out ?_) | fail)
    refine (HN.out _).mono ?_
    rintro e w9 ⟨rfl, hb9⟩
    obtain ⟨z0, z1, z2, z3⟩ := (RZ'.nx hb9).zero4
    have f1 := (RZ'.nx hb9).frozen
    replace N' := Lib.hid (N'.out.trans hb9)
    clear hb9 RZ' RF
    go_wp2
    exact bodyPost_ret (v := .tuple #[.agg #[.int .u64 (lim (a + turnN b + 1) 0 : Int), .int .u64 (lim (a + turnN b + 1) 1 : Int), .int .u64 (lim (a + turnN b + 1) 2 : Int), .int .u64 (lim (a + turnN b + 1) 3 : Int)], .bool (!decide (top ≤ a + turnN b + 1))]) (by simp [results, Try.results29, go_sem, z0, z1, z2, z3, f1]) rfl
      ⟨by rw [HE.out], by repeat (first | with_reducible exact N'.out | with_reducible apply Nx.drew | with_reducible refine Nx.setAt ?_ _ (by omega))⟩
end Go.Proofs.Ytggemncdnclhnaa
