/- LAYER 3: the walk of BigOf. -/
import Derived.Test.YtggemncdnclhnaaLawBigOrder
import Derived.Test.YtggemncdnclhnaaRefOf2
import Derived.Test.YtggemncdnclhnaaRefLess
namespace Go.Proofs.Ytggemncdnclhnaa
open Go.RowKit
set_option linter.unusedVariables false
set_option linter.unusedSimpArgs false

theorem lt_top_of_u64 {n : Nat} (h : n < 18446744073709551616) : n < top := Nat.lt_of_lt_of_le h (by decide)

theorem eq_hash' (h : List UInt8) (hh : h.length = 32) (w : World) : (Op.equalIn 10000 26 (.agg (hcel h)) (.agg (hcel h))).run Try.prog w = .ok true w := eq_hash h hh w

set_option maxHeartbeats 8000000 in
set_option maxRecDepth 100000 in
theorem bigOf_case {w : World} (a : Nat) (ha : a < top) (b : Nat) (hb : b < top) (h : List UInt8) (hh : h.length = 32) (n : Nat) (hn : (n : Int) ≤ 18446744073709551615) (v : Bool) (hv : subB a b = v) :
    Calls Try.prog 3 #[.agg #[.int .u64 (lim a 0 : Int), .int .u64 (lim a 1 : Int), .int .u64 (lim a 2 : Int), .int .u64 (lim a 3 : Int)], .agg #[.int .u64 (lim b 0 : Int), .int .u64 (lim b 1 : Int), .int .u64 (lim b 2 : Int), .int .u64 (lim b 3 : Int)], .agg (hcel h), .int .u64 (n : Int)] w fun e w' => e = .returned (.bool true) ∧ Nx w w' := by
  have H1 := fun w => of_any n w hn
  have G1 := fun w => refOf_any n w hn
  have H2 := fun w => ofHash_any h w hh
  have G2 := fun w => refOfHash_any h w hh
  have H3 := fun w => toHash_any a w
  have G3 := fun w => refToHash_any a w
  have H4 := fun w => less_any a b w ha hb
  have G4 := fun w => refLess_any a b w ha hb
  have H5 := fun w => len_any a w ha
  have G5 := fun w => refLen_any a w ha
  rw [hv] at H4 G4
  have hnt : n < top := lt_top_of_u64 (by omega)
  have he1 : ∀ w, (Op.equalIn 10000 24 (.agg #[.int .u64 (lim n 0 : Int), .int .u64 (lim n 1 : Int), .int .u64 (lim n 2 : Int), .int .u64 (lim n 3 : Int)]) (.agg #[.int .u64 (lim n 0 : Int), .int .u64 (lim n 1 : Int), .int .u64 (lim n 2 : Int), .int .u64 (lim n 3 : Int)])).run Try.prog w = .ok true w := fun w => by rw [eqU _ _ hnt hnt w]; simp
  have he2 : ∀ w, (Op.equalIn 10000 24 (.agg #[.int .u64 (lim (num h) 0 : Int), .int .u64 (lim (num h) 1 : Int), .int .u64 (lim (num h) 2 : Int), .int .u64 (lim (num h) 3 : Int)]) (.agg #[.int .u64 (lim (num h) 0 : Int), .int .u64 (lim (num h) 1 : Int), .int .u64 (lim (num h) 2 : Int), .int .u64 (lim (num h) 3 : Int)])).run Try.prog w = .ok true w := fun w => by rw [eqU _ _ (num_top h hh) (num_top h hh) w]; simp
  have he3 := eq_hash (low a 32) (low_length a 32)
  have HH := Lib.hid hh
  generalize num h = x at *
  generalize low a 32 = y at *
  generalize blen a = z at *
  replace H1 := Lib.hid H1
  replace G1 := Lib.hid G1
  replace H2 := Lib.hid H2
  replace G2 := Lib.hid G2
  replace H3 := Lib.hid H3
  replace G3 := Lib.hid G3
  replace H4 := Lib.hid H4
  replace G4 := Lib.hid G4
  replace H5 := Lib.hid H5
  replace G5 := Lib.hid G5
  clear ha hb hh hv hnt
  go_enter Try.func3, Try.ntmps3
  go_wp2_with fail
  have RA := ((Row.new w #[.int .u64 (lim a 0 : Int), .int .u64 (lim a 1 : Int), .int .u64 (lim a 2 : Int), .int .u64 (lim a 3 : Int)] 24 _ rfl).alloc (.cells #[.int .u64 (lim b 0 : Int), .int .u64 (lim b 1 : Int), .int .u64 (lim b 2 : Int), .int .u64 (lim b 3 : Int)] 24)).alloc (.cells (hcel h) 26)
  have RB := (Row.new2 w (.cells #[.int .u64 (lim a 0 : Int), .int .u64 (lim a 1 : Int), .int .u64 (lim a 2 : Int), .int .u64 (lim a 3 : Int)] 24) #[.int .u64 (lim b 0 : Int), .int .u64 (lim b 1 : Int), .int .u64 (lim b 2 : Int), .int .u64 (lim b 3 : Int)] 24).alloc (.cells (hcel h) 26)
  have RH := Row.new3 w (.cells #[.int .u64 (lim a 0 : Int), .int .u64 (lim a 1 : Int), .int .u64 (lim a 2 : Int), .int .u64 (lim a 3 : Int)] 24) (.cells #[.int .u64 (lim b 0 : Int), .int .u64 (lim b 1 : Int), .int .u64 (lim b 2 : Int), .int .u64 (lim b 3 : Int)] 24) (hcel h) 26
  have N1 := Lib.hid ((((Nx.refl w).alloc (.cells #[.int .u64 (lim a 0 : Int), .int .u64 (lim a 1 : Int), .int .u64 (lim a 2 : Int), .int .u64 (lim a 3 : Int)] 24)).alloc (.cells #[.int .u64 (lim b 0 : Int), .int .u64 (lim b 1 : Int), .int .u64 (lim b 2 : Int), .int .u64 (lim b 3 : Int)] 24)).alloc (.cells (hcel h) 26))
  generalize (((w.alloc (.cells #[.int .u64 (lim a 0 : Int), .int .u64 (lim a 1 : Int), .int .u64 (lim a 2 : Int), .int .u64 (lim a 3 : Int)] 24)).alloc (.cells #[.int .u64 (lim b 0 : Int), .int .u64 (lim b 1 : Int), .int .u64 (lim b 2 : Int), .int .u64 (lim b 3 : Int)] 24)).alloc (.cells (hcel h) 26)) = W at *
  have qb0 : ∀ d os, (Sort.grow (redrawn W d) os).cell? ⟨(w.heap.size + 1), 0, none⟩ = some (.int .u64 (lim b 0 : Int)) := fun d os => cell_regrown (RB.cell rfl) d os
  have qa0 : ∀ d os, (Sort.grow (redrawn W d) os).cell? ⟨w.heap.size, 0, none⟩ = some (.int .u64 (lim a 0 : Int)) := fun d os => cell_regrown (RA.cell rfl) d os
  have qb1 : ∀ d os, (Sort.grow (redrawn W d) os).cell? ⟨(w.heap.size + 1), 1, none⟩ = some (.int .u64 (lim b 1 : Int)) := fun d os => cell_regrown (RB.cell rfl) d os
  have qa1 : ∀ d os, (Sort.grow (redrawn W d) os).cell? ⟨w.heap.size, 1, none⟩ = some (.int .u64 (lim a 1 : Int)) := fun d os => cell_regrown (RA.cell rfl) d os
  have qb2 : ∀ d os, (Sort.grow (redrawn W d) os).cell? ⟨(w.heap.size + 1), 2, none⟩ = some (.int .u64 (lim b 2 : Int)) := fun d os => cell_regrown (RB.cell rfl) d os
  have qa2 : ∀ d os, (Sort.grow (redrawn W d) os).cell? ⟨w.heap.size, 2, none⟩ = some (.int .u64 (lim a 2 : Int)) := fun d os => cell_regrown (RA.cell rfl) d os
  have qb3 : ∀ d os, (Sort.grow (redrawn W d) os).cell? ⟨(w.heap.size + 1), 3, none⟩ = some (.int .u64 (lim b 3 : Int)) := fun d os => cell_regrown (RB.cell rfl) d os
  have qa3 : ∀ d os, (Sort.grow (redrawn W d) os).cell? ⟨w.heap.size, 3, none⟩ = some (.int .u64 (lim a 3 : Int)) := fun d os => cell_regrown (RA.cell rfl) d os
  have qh := Lib.hid (fun (w' : World) (hw : ∃ p : Regrown, w' = Sort.grow (redrawn W p.d) p.os) => show Row w' (w.heap.size + 1 + 1) (hcel h) 26 by obtain ⟨p, rfl⟩ := hw; exact Row.nx RH (below_regrown W p.d p.os))
  have hsz := Lib.hid (show (Try.prog.info? 26).map (·.size) = some (hcel h).size by rw [hcel_size, HH.out]; exact info_hash)
  clear RA RB RH
  cases v
  all_goals
    refine wp_region_quiet_below (by kernel_rfl) (by kernel_rfl) ?_
    repeat (first
      | (refine wpQuiet_step (fun K hK => ?_); rw [if_pos (by rfl)]; refine quiet_load 26 (.tmp 6) rfl (w.heap.size + 1 + 1) rfl 26 (hcel h) (0, 0) _ qh.out Try.underlying26 rfl hsz.out ?_; refine hK _ ?_; clear hK K)
      | quiet_step ((first
        | (go_at_call 15; with_reducible exact Calls.regrown_of (H1.out _))
        | (go_at_call 16; with_reducible exact Calls.regrown_of (G1.out _))
        | (go_at_call 17; with_reducible exact Calls.regrown_of (H2.out _))
        | (go_at_call 18; with_reducible exact Calls.regrown_of (G2.out _))
        | (go_at_call 19; with_reducible exact Calls.regrown_of (H3.out _))
        | (go_at_call 20; with_reducible exact Calls.regrown_of (G3.out _))
        | (go_at_call 21; with_reducible exact Calls.regrown_of (H4.out _))
        | (go_at_call 22; with_reducible exact Calls.regrown_of (G4.out _))
        | (go_at_call 23; with_reducible exact Calls.regrown_of (H5.out _))
        | (go_at_call 24; with_reducible exact Calls.regrown_of (G5.out _))
        | (go_at_call 25; with_reducible exact Calls.regrown_of (lives3_any _)))))
    refine wpQuiet_nil ?_
    intro _ hw'
    obtain ⟨⟨dq, osq⟩, hw''⟩ := hw'
    subst hw''
    go_wp2
    go_ret
    exact ⟨rfl, N1.out.trans (below_regrown W dq osq)⟩
theorem bigOf_law {w : World} (a : Nat) (ha : a < top) (b : Nat) (hb : b < top) (h : List UInt8) (hh : h.length = 32) (n : Nat) (hn : (n : Int) ≤ 18446744073709551615) :
    Calls Try.prog 3 #[.agg #[.int .u64 (lim a 0 : Int), .int .u64 (lim a 1 : Int), .int .u64 (lim a 2 : Int), .int .u64 (lim a 3 : Int)], .agg #[.int .u64 (lim b 0 : Int), .int .u64 (lim b 1 : Int), .int .u64 (lim b 2 : Int), .int .u64 (lim b 3 : Int)], .agg (hcel h), .int .u64 (n : Int)] w fun e w' => e = .returned (.bool true) ∧ Nx w w' := bigOf_case a ha b hb h hh n hn _ rfl
end Go.Proofs.Ytggemncdnclhnaa
