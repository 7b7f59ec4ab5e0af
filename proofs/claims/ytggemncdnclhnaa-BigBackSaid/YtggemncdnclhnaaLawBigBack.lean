/- LAYER 3: the walk of BigBack. -/
import Derived.Test.YtggemncdnclhnaaBigDiv
namespace Go.Proofs.Ytggemncdnclhnaa
open Go.RowKit
set_option linter.unusedVariables false
set_option linter.unusedSimpArgs false

/-- A number stored into a block, limb by limb. -/
theorem Row.stored {w : World} {g : Nat} {t : TypeId} (h : Row w g #[.int .u64 0, .int .u64 0, .int .u64 0, .int .u64 0] t) (a : Nat) : Row ((((w.setCell ⟨g, 0, none⟩ (.int .u64 (lim a 0 : Int))).setCell ⟨g, 1, none⟩ (.int .u64 (lim a 1 : Int))).setCell ⟨g, 2, none⟩ (.int .u64 (lim a 2 : Int))).setCell ⟨g, 3, none⟩ (.int .u64 (lim a 3 : Int))) g #[.int .u64 (lim a 0 : Int), .int .u64 (lim a 1 : Int), .int .u64 (lim a 2 : Int), .int .u64 (lim a 3 : Int)] t := (((h.set 0 _).set 1 _).set 2 _).set 3 _
theorem Row.beside {w : World} {k : Nat} {cs : Array Value} {t : TypeId} (h : Row w k cs t) (g a : Nat) (hk : k ≠ g) : Row ((((w.setCell ⟨g, 0, none⟩ (.int .u64 (lim a 0 : Int))).setCell ⟨g, 1, none⟩ (.int .u64 (lim a 1 : Int))).setCell ⟨g, 2, none⟩ (.int .u64 (lim a 2 : Int))).setCell ⟨g, 3, none⟩ (.int .u64 (lim a 3 : Int))) k cs t := (((h.other _ _ _ hk).other _ _ _ hk).other _ _ _ hk).other _ _ _ hk
theorem Nx.stored {w0 w : World} (h : Nx w0 w) (g a : Nat) (hk : w0.heap.size ≤ g) : Nx w0 ((((w.setCell ⟨g, 0, none⟩ (.int .u64 (lim a 0 : Int))).setCell ⟨g, 1, none⟩ (.int .u64 (lim a 1 : Int))).setCell ⟨g, 2, none⟩ (.int .u64 (lim a 2 : Int))).setCell ⟨g, 3, none⟩ (.int .u64 (lim a 3 : Int))) := (((h.setAt _ hk).setAt _ hk).setAt _ hk).setAt _ hk
theorem lt_top_64 {n : Nat} (h : n < 18446744073709551616) : n < top := Nat.lt_of_lt_of_le h (by decide)

set_option maxHeartbeats 4000000 in
set_option maxRecDepth 100000 in
theorem bigBack_nought {w : World} (a : Nat) :
    Calls Try.prog 8 #[.agg #[.int .u64 (lim a 0 : Int), .int .u64 (lim a 1 : Int), .int .u64 (lim a 2 : Int), .int .u64 (lim a 3 : Int)], .int .u64 0] w fun e w' => e = .returned (.bool true) ∧ Nx w w' := by
  go_enter Try.func8, Try.ntmps8
  go_wp2_with fail
  refine (div_nought a _).mono ?_
  rintro e w1 ⟨rfl, hb1⟩
  have N1 := Lib.hid ((((Nx.refl w).alloc (.cells #[.int .u64 (lim a 0 : Int), .int .u64 (lim a 1 : Int), .int .u64 (lim a 2 : Int), .int .u64 (lim a 3 : Int)] 24)).trans hb1).alloc (.cells #[.int .u64 0, .int .u64 0, .int .u64 0, .int .u64 0] 24))
  clear hb1
  go_wp2_with fail
  refine (lives3_any _).mono ?_
  rintro e w5 ⟨rfl, hb5⟩
  go_wp2
  go_ret
  exact ⟨rfl, N1.out.trans hb5⟩

set_option maxHeartbeats 8000000 in
set_option maxRecDepth 100000 in
theorem bigBack_some {w : World} (a : Nat) (ha : a < top) (n : Nat) (hn : (n : Int) ≤ 18446744073709551615) (hn0 : n ≠ 0) :
    Calls Try.prog 8 #[.agg #[.int .u64 (lim a 0 : Int), .int .u64 (lim a 1 : Int), .int .u64 (lim a 2 : Int), .int .u64 (lim a 3 : Int)], .int .u64 (n : Int)] w fun e w' => e = .returned (.bool true) ∧ Nx w w' := by
  have hqn : a / n * n + a % n = a := by rw [Nat.mul_comm]; exact Nat.div_add_mod a n
  have hql : a / n < top := Nat.lt_of_le_of_lt (Nat.div_le_self _ _) ha
  have hpl : a / n * n < top := by omega
  have hrn : a % n < n := Nat.mod_lt _ (by omega)
  have HD := fun w => div_yes a n w ha hn hn0
  have HM := fun w => mul_any (a / n) n w hql hn
  have em : mulN (a / n) n = a / n * n := Nat.mod_eq_of_lt hpl
  have eh : mulH (a / n) n = 0 := Nat.div_eq_of_lt hpl
  rw [em, eh] at HM
  have HO := fun w => of_any (a % n) w (by omega)
  have HA := fun w => add_any (a / n * n) (a % n) w hpl (lt_top_64 (by omega))
  have es : addN (a / n * n) (a % n) = a := by unfold addN; rw [hqn]; exact Nat.mod_eq_of_lt ha
  have eb : addB (a / n * n) (a % n) = false := by unfold addB; rw [hqn]; simp; omega
  rw [es, eb] at HA
  have heaa : ∀ w, (Op.equalIn 10000 24 (.agg #[.int .u64 (lim a 0 : Int), .int .u64 (lim a 1 : Int), .int .u64 (lim a 2 : Int), .int .u64 (lim a 3 : Int)]) (.agg #[.int .u64 (lim a 0 : Int), .int .u64 (lim a 1 : Int), .int .u64 (lim a 2 : Int), .int .u64 (lim a 3 : Int)])).run Try.prog w = .ok true w := fun w => by rw [eqU a a ha ha w]; simp
  have hnz : ((n : Int) == 0) = false := by simp; omega
  have hrl : ((a % n : Nat) : Int) < (n : Int) := by omega
  have hrn' : a % n < n := hrn
  clear hqn hql hpl em eh es eb ha hn0 hrn
  generalize a / n * n = p at *
  generalize a / n = q at *
  generalize a % n = r at *
  replace HD := Lib.hid HD
  replace HM := Lib.hid HM
  replace HO := Lib.hid HO
  replace HA := Lib.hid HA
  go_enter Try.func8, Try.ntmps8
  go_wp2_with fail
  refine (HD.out _).mono ?_
  rintro e w1 ⟨rfl, hb1⟩
  have RA := ((Row.new w #[.int .u64 (lim a 0 : Int), .int .u64 (lim a 1 : Int), .int .u64 (lim a 2 : Int), .int .u64 (lim a 3 : Int)] 24 _ rfl).nx hb1).alloc (.cells #[.int .u64 (lim q 0 : Int), .int .u64 (lim q 1 : Int), .int .u64 (lim q 2 : Int), .int .u64 (lim q 3 : Int)] 24)
  have N1 := Lib.hid ((((Nx.refl w).alloc (.cells #[.int .u64 (lim a 0 : Int), .int .u64 (lim a 1 : Int), .int .u64 (lim a 2 : Int), .int .u64 (lim a 3 : Int)] 24)).trans hb1).alloc (.cells #[.int .u64 (lim q 0 : Int), .int .u64 (lim q 1 : Int), .int .u64 (lim q 2 : Int), .int .u64 (lim q 3 : Int)] 24))
  clear hb1
  go_wp2_with fail
  refine (HM.out _).mono ?_
  rintro e w2 ⟨rfl, hb2⟩
  replace RA := (RA.nx hb2).alloc (.cells #[.int .u64 (lim p 0 : Int), .int .u64 (lim p 1 : Int), .int .u64 (lim p 2 : Int), .int .u64 (lim p 3 : Int)] 24)
  have RP : Row (w2.alloc (.cells #[.int .u64 (lim p 0 : Int), .int .u64 (lim p 1 : Int), .int .u64 (lim p 2 : Int), .int .u64 (lim p 3 : Int)] 24)) w2.heap.size #[.int .u64 (lim p 0 : Int), .int .u64 (lim p 1 : Int), .int .u64 (lim p 2 : Int), .int .u64 (lim p 3 : Int)] 24 := Row.new w2 _ _ _ rfl
  replace N1 := Lib.hid ((N1.out.trans hb2).alloc (.cells #[.int .u64 (lim p 0 : Int), .int .u64 (lim p 1 : Int), .int .u64 (lim p 2 : Int), .int .u64 (lim p 3 : Int)] 24))
  clear hb2
  go_wp2_with fail
  generalize w2.heap.size = gP at *
  generalize (w2.alloc (.cells #[.int .u64 (lim p 0 : Int), .int .u64 (lim p 1 : Int), .int .u64 (lim p 2 : Int), .int .u64 (lim p 3 : Int)] 24)) = W at *
  replace RA := Lib.hid RA
  replace RP := Lib.hid RP
  go_region_held3 (fun w' => w'.cell? ⟨gP, 0, none⟩ = some (.int .u64 (lim p 0 : Int)) ∧ w'.cell? ⟨gP, 1, none⟩ = some (.int .u64 (lim p 1 : Int)) ∧ w'.cell? ⟨gP, 2, none⟩ = some (.int .u64 (lim p 2 : Int)) ∧ w'.cell? ⟨gP, 3, none⟩ = some (.int .u64 (lim p 3 : Int)))
    (((refine Row.four (t := 24) ?_); (repeat (first | with_reducible exact RP.out | with_reducible exact RA.out | with_reducible refine Row.drew ?_ | with_reducible refine Row.alloc ?_ _ | (with_reducible refine Row.other ?_ _ _ _ ?_; rotate_left; ((try simp only [alloc_size]); have hrp := RP.out.lt; have hra := RA.out.lt; omega); rotate_left)))))
    (first
      | (go_at_call 15; (with_reducible refine (HO.out _).mono ?_); rintro e w8 ⟨rfl, hb8⟩; have HG := RP.out.lt; have HG2 := RA.out.lt
         (first | with_reducible replace RA := Lib.hid (RA.out.nx hb8) | with_reducible replace RA := Lib.hid (RA.out.drew.nx hb8) | with_reducible replace RA := Lib.hid ((RA.out.alloc _).nx hb8) | with_reducible replace RA := Lib.hid ((RA.out.alloc _).drew.nx hb8))
         (first | with_reducible replace RP := Lib.hid (RP.out.nx hb8) | with_reducible replace RP := Lib.hid (RP.out.drew.nx hb8) | with_reducible replace RP := Lib.hid ((RP.out.alloc _).nx hb8) | with_reducible replace RP := Lib.hid ((RP.out.alloc _).drew.nx hb8))
         (first | with_reducible replace N1 := Lib.hid (N1.out.trans hb8) | with_reducible replace N1 := Lib.hid (N1.out.drew.trans hb8) | with_reducible replace N1 := Lib.hid ((N1.out.alloc _).trans hb8) | with_reducible replace N1 := Lib.hid ((N1.out.alloc _).drew.trans hb8))
         (first | (with_reducible replace RT := Lib.hid (RT.out.nx hb8)) | (with_reducible have RT := Lib.hid ((Row.new _ #[.int .u64 0, .int .u64 0, .int .u64 0, .int .u64 0] _ _ rfl).nx hb8); have HT := Lib.hid HG2) | (with_reducible have RT := Lib.hid ((Row.new _ #[.int .u64 0, .int .u64 0, .int .u64 0, .int .u64 0] _ _ rfl).drew.nx hb8); have HT := Lib.hid HG2) | skip)
         (first | (obtain ⟨c0, c1, c2, c3⟩ := RT.out.zero4; have fT := RT.out.frozen) | skip)
         clear hb8)
      | (go_at_call 26; (with_reducible refine (HA.out _).mono ?_); rintro e w8 ⟨rfl, hb8⟩; have HG := RP.out.lt; have HG2 := RA.out.lt
         (first | with_reducible replace RA := Lib.hid (RA.out.nx hb8) | with_reducible replace RA := Lib.hid (RA.out.drew.nx hb8) | with_reducible replace RA := Lib.hid ((RA.out.alloc _).nx hb8) | with_reducible replace RA := Lib.hid ((RA.out.alloc _).drew.nx hb8))
         (first | with_reducible replace RP := Lib.hid (RP.out.nx hb8) | with_reducible replace RP := Lib.hid (RP.out.drew.nx hb8) | with_reducible replace RP := Lib.hid ((RP.out.alloc _).nx hb8) | with_reducible replace RP := Lib.hid ((RP.out.alloc _).drew.nx hb8))
         (first | with_reducible replace N1 := Lib.hid (N1.out.trans hb8) | with_reducible replace N1 := Lib.hid (N1.out.drew.trans hb8) | with_reducible replace N1 := Lib.hid ((N1.out.alloc _).trans hb8) | with_reducible replace N1 := Lib.hid ((N1.out.alloc _).drew.trans hb8))
         (first | (with_reducible replace RT := Lib.hid (RT.out.nx hb8)) | (with_reducible have RT := Lib.hid ((Row.new _ #[.int .u64 0, .int .u64 0, .int .u64 0, .int .u64 0] _ _ rfl).nx hb8); have HT := Lib.hid HG2) | (with_reducible have RT := Lib.hid ((Row.new _ #[.int .u64 0, .int .u64 0, .int .u64 0, .int .u64 0] _ _ rfl).drew.nx hb8); have HT := Lib.hid HG2) | skip)
         (first | (obtain ⟨c0, c1, c2, c3⟩ := RT.out.zero4; have fT := RT.out.frozen) | skip)
         clear hb8))
  all_goals
    (first
      | (have RS := RT.out.stored a
         have RAF := RA.out.beside _ a (Nat.ne_of_lt HT.out)
         have NF := Lib.hid (N1.out.stored _ a (Nat.le_of_lt HT.out)))
      | (have RS := Row.new w8 #[.int .u64 (lim a 0 : Int), .int .u64 (lim a 1 : Int), .int .u64 (lim a 2 : Int), .int .u64 (lim a 3 : Int)] 24 _ rfl
         have RAF := RA.out.alloc (.cells #[.int .u64 (lim a 0 : Int), .int .u64 (lim a 1 : Int), .int .u64 (lim a 2 : Int), .int .u64 (lim a 3 : Int)] 24)
         have NF := Lib.hid (N1.out.alloc (.cells #[.int .u64 (lim a 0 : Int), .int .u64 (lim a 1 : Int), .int .u64 (lim a 2 : Int), .int .u64 (lim a 3 : Int)] 24))))
    obtain ⟨s0, s1, s2, s3⟩ := RS.four
    obtain ⟨a0, a1, a2, a3⟩ := RAF.four
    clear RS RAF N1 RA RP HD HM HO HA
    go_wp2_with fail
    refine (lives3_any _).mono ?_
    rintro e w9 ⟨rfl, hb9⟩
    go_wp2
    go_ret
    exact ⟨rfl, NF.out.trans hb9⟩

theorem bigBack_law {w : World} (a : Nat) (ha : a < top) (n : Nat) (hn : (n : Int) ≤ 18446744073709551615) :
    Calls Try.prog 8 #[.agg #[.int .u64 (lim a 0 : Int), .int .u64 (lim a 1 : Int), .int .u64 (lim a 2 : Int), .int .u64 (lim a 3 : Int)], .int .u64 (n : Int)] w fun e w' => e = .returned (.bool true) ∧ Nx w w' := by
  rcases Nat.eq_zero_or_pos n with rfl | hp
  · exact bigBack_nought a
  · exact bigBack_some a ha n hn (by omega)
end Go.Proofs.Ytggemncdnclhnaa
