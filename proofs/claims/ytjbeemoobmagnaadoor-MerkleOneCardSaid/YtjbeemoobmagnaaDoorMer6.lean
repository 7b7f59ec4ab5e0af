/- LAYER 9: Leads where it may not be, of the document too. -/
import Derived.Test.YtjbeemoobmagnaaDoorMer5
namespace Go.Proofs.YtjbeemoobmagnaaDoor
open Go Go.RowKit
set_option linter.unusedVariables false
set_option linter.unusedSimpArgs false
set_option linter.unusedVariables false
set_option linter.unusedSimpArgs false

set_option maxRecDepth 100000 in
set_option maxHeartbeats 4000000 in
theorem mleads_arg_a (h : List UInt8) (n many : Int) (v : Value) (w : World) (hh : h.length = 32) (hlt : n < 0) :
    Calls Tryd.prog 35 #[.agg (hcel h), .int .i64 n, .int .i64 many, v] w fun e w' => e = .returned (.tuple #[.agg (hcel hZ), .int .i64 2]) ∧ Nx w w' := by
  obtain ⟨hz, hzs⟩ := zero_of_info info_hash'
  have LZ := Lib.hid hZ_length
  change ∀ w, (zeroValue 30).run Tryd.prog w = .ok (.agg (hcel hZ)) w at hz
  generalize hZ = ZZ at *
  have iZ := Lib.hid (hashsz ZZ LZ.out)
  have oZ := Lib.hid (hashsame ZZ ZZ LZ.out LZ.out)
  have R1 := Row.new2 w (.cells (hcel h) 30) (hcel ZZ) 30
  have N0 := Lib.hid (((Nx.refl w).alloc (.cells (hcel h) 30)).alloc (.cells (hcel ZZ) 30))
  go_enter Tryd.func35, Tryd.ntmps35
  go_wp2_with (refine wpList_store_row rfl 30 (.tmp 8) (.tmp 23) rfl (w.heap.size + 1) (hcel ZZ) rfl rfl 30 (hcel ZZ) R1 iZ.out rfl (hcel_one _) ?_)
  exact bodyPost_ret (results_cell_two Tryd.results35 _ _ (w.heap.size + 1) 30 (hcel ZZ) (0, 0) _ rfl (R1.setRow _) Tryd.underlying30 rfl iZ.out) rfl ⟨rfl, N0.out.setRow _ (Nat.le_succ _)⟩

set_option maxRecDepth 100000 in
set_option maxHeartbeats 4000000 in
theorem mleads_arg_b (h : List UInt8) (n many : Int) (v : Value) (w : World) (hh : h.length = 32) (h0 : 0 ≤ n) (hlt : many ≤ n) :
    Calls Tryd.prog 35 #[.agg (hcel h), .int .i64 n, .int .i64 many, v] w fun e w' => e = .returned (.tuple #[.agg (hcel hZ), .int .i64 2]) ∧ Nx w w' := by
  obtain ⟨hz, hzs⟩ := zero_of_info info_hash'
  have LZ := Lib.hid hZ_length
  change ∀ w, (zeroValue 30).run Tryd.prog w = .ok (.agg (hcel hZ)) w at hz
  generalize hZ = ZZ at *
  have iZ := Lib.hid (hashsz ZZ LZ.out)
  have oZ := Lib.hid (hashsame ZZ ZZ LZ.out LZ.out)
  have R1 := Row.new2 w (.cells (hcel h) 30) (hcel ZZ) 30
  have N0 := Lib.hid (((Nx.refl w).alloc (.cells (hcel h) 30)).alloc (.cells (hcel ZZ) 30))
  have h0i : ¬ n < 0 := by omega
  clear h0
  go_enter Tryd.func35, Tryd.ntmps35
  go_wp2_with (refine wpList_store_row rfl 30 (.tmp 8) (.tmp 23) rfl (w.heap.size + 1) (hcel ZZ) rfl rfl 30 (hcel ZZ) R1 iZ.out rfl (hcel_one _) ?_)
  exact bodyPost_ret (results_cell_two Tryd.results35 _ _ (w.heap.size + 1) 30 (hcel ZZ) (0, 0) _ rfl (R1.setRow _) Tryd.underlying30 rfl iZ.out) rfl ⟨rfl, N0.out.setRow _ (Nat.le_succ _)⟩

set_option maxRecDepth 100000 in
set_option maxHeartbeats 4000000 in
theorem mleads_arg_c (h : List UInt8) (n many : Int) (v : Value) (w : World) (hh : h.length = 32) (h0 : 0 ≤ n) (h1 : n < many) (hlt : 1048576 < many) :
    Calls Tryd.prog 35 #[.agg (hcel h), .int .i64 n, .int .i64 many, v] w fun e w' => e = .returned (.tuple #[.agg (hcel hZ), .int .i64 2]) ∧ Nx w w' := by
  obtain ⟨hz, hzs⟩ := zero_of_info info_hash'
  have LZ := Lib.hid hZ_length
  change ∀ w, (zeroValue 30).run Tryd.prog w = .ok (.agg (hcel hZ)) w at hz
  generalize hZ = ZZ at *
  have iZ := Lib.hid (hashsz ZZ LZ.out)
  have oZ := Lib.hid (hashsame ZZ ZZ LZ.out LZ.out)
  have R1 := Row.new2 w (.cells (hcel h) 30) (hcel ZZ) 30
  have N0 := Lib.hid (((Nx.refl w).alloc (.cells (hcel h) 30)).alloc (.cells (hcel ZZ) 30))
  have h0i : ¬ n < 0 := by omega
  have h1i : ¬ many ≤ n := by omega
  clear h0 h1
  go_enter Tryd.func35, Tryd.ntmps35
  go_wp2_with (refine wpList_store_row rfl 30 (.tmp 8) (.tmp 23) rfl (w.heap.size + 1) (hcel ZZ) rfl rfl 30 (hcel ZZ) R1 iZ.out rfl (hcel_one _) ?_)
  exact bodyPost_ret (results_cell_two Tryd.results35 _ _ (w.heap.size + 1) 30 (hcel ZZ) (0, 0) _ rfl (R1.setRow _) Tryd.underlying30 rfl iZ.out) rfl ⟨rfl, N0.out.setRow _ (Nat.le_succ _)⟩

theorem mleads_arg (h : List UInt8) (n many : Int) (v : Value) (w : World) (hh : h.length = 32) (hlt : ¬ (0 ≤ n ∧ n < many ∧ many ≤ 1048576)) :
    Calls Tryd.prog 35 #[.agg (hcel h), .int .i64 n, .int .i64 many, v] w fun e w' => e = .returned (.tuple #[.agg (hcel hZ), .int .i64 2]) ∧ Nx w w' := by
  rcases Int.lt_or_le n 0 with h0 | h0
  · exact mleads_arg_a h n many v w hh h0
  · rcases Int.lt_or_le n many with h1 | h1
    · exact mleads_arg_c h n many v w hh h0 h1 (by omega)
    · exact mleads_arg_b h n many v w hh h0 h1

set_option maxRecDepth 100000 in
set_option maxHeartbeats 4000000 in
theorem mleads_form (h : List UInt8) (n many : Nat) (v : Value) (way : Hs) (w : World) (hh : h.length = 32) (hr : RdE elH w v way) (hn : way.length ≠ belowF many) (hlt : n < many) (hm : many ≤ 1048576) :
    Calls Tryd.prog 35 #[.agg (hcel h), .int .i64 (n : Int), .int .i64 (many : Int), v] w fun e w' => e = .returned (.tuple #[.agg (hcel hZ), .int .i64 5]) ∧ Nx w w' := by
  obtain ⟨hz, hzs⟩ := zero_of_info info_hash'
  have LZ := Lib.hid hZ_length
  change ∀ w, (zeroValue 30).run Tryd.prog w = .ok (.agg (hcel hZ)) w at hz
  generalize hZ = ZZ at *
  have iZ := Lib.hid (hashsz ZZ LZ.out)
  have oZ := Lib.hid (hashsame ZZ ZZ LZ.out LZ.out)
  have R1 := Row.new2 w (.cells (hcel h) 30) (hcel ZZ) 30
  have N0 := Lib.hid (((Nx.refl w).alloc (.cells (hcel h) 30)).alloc (.cells (hcel ZZ) 30))
  have HBL := Lib.hid (fun w => mbelow_any many (by omega) w)
  have hn0 : ¬ (n : Int) < 0 := by omega
  have hn1 : ¬ (many : Int) ≤ (n : Int) := by omega
  have hn2 : ¬ (1048576 : Int) < (many : Int) := by omega
  have hne : ((way.length : Int) != (belowF many : Int)) = true := by simp; omega
  obtain ⟨A, c, rfl, -⟩ := hr.h_parts
  clear hr hn hlt hm hh
  generalize belowF many = q at *
  generalize way.length = wn at *
  go_enter Tryd.func35, Tryd.ntmps35
  go_wp2_with fail
  refine (HBL.out _).mono ?_
  rintro e w1 ⟨rfl, rfl⟩
  go_wp2_with (refine wpList_store_row rfl 30 (.tmp 8) (.tmp 29) rfl (w.heap.size + 1) (hcel ZZ) rfl rfl 30 (hcel ZZ) R1 iZ.out rfl (hcel_one _) ?_)
  exact bodyPost_ret (results_cell_two Tryd.results35 _ _ (w.heap.size + 1) 30 (hcel ZZ) (0, 0) _ rfl (R1.setRow _) Tryd.underlying30 rfl iZ.out) rfl ⟨rfl, N0.out.setRow _ (Nat.le_succ _)⟩

set_option maxRecDepth 100000 in
set_option maxHeartbeats 4000000 in
theorem rleads_arg_a (h : List UInt8) (n many : Int) (v : Value) (w : World) (hh : h.length = 32) (hlt : n < 0) :
    Calls Tryd.prog 36 #[.agg (hcel h), .int .i64 n, .int .i64 many, v] w fun e w' => e = .returned (.tuple #[.agg (hcel hZ), .int .i64 2]) ∧ Nx w w' := by
  obtain ⟨hz, hzs⟩ := zero_of_info info_hash'
  have LZ := Lib.hid hZ_length
  change ∀ w, (zeroValue 30).run Tryd.prog w = .ok (.agg (hcel hZ)) w at hz
  generalize hZ = ZZ at *
  have iZ := Lib.hid (hashsz ZZ LZ.out)
  have oZ := Lib.hid (hashsame ZZ ZZ LZ.out LZ.out)
  have R1 := Row.new2 w (.cells (hcel h) 30) (hcel ZZ) 30
  have N0 := Lib.hid (((Nx.refl w).alloc (.cells (hcel h) 30)).alloc (.cells (hcel ZZ) 30))
  go_enter Tryd.func36, Tryd.ntmps36
  go_wp2_with (refine wpList_store_row rfl 30 (.tmp 8) (.tmp 27) rfl (w.heap.size + 1) (hcel ZZ) rfl rfl 30 (hcel ZZ) R1 iZ.out rfl (hcel_one _) ?_)
  exact bodyPost_ret (results_cell_two Tryd.results36 _ _ (w.heap.size + 1) 30 (hcel ZZ) (0, 0) _ rfl (R1.setRow _) Tryd.underlying30 rfl iZ.out) rfl ⟨rfl, N0.out.setRow _ (Nat.le_succ _)⟩

set_option maxRecDepth 100000 in
set_option maxHeartbeats 4000000 in
theorem rleads_arg_b (h : List UInt8) (n many : Int) (v : Value) (w : World) (hh : h.length = 32) (h0 : 0 ≤ n) (hlt : many ≤ n) :
    Calls Tryd.prog 36 #[.agg (hcel h), .int .i64 n, .int .i64 many, v] w fun e w' => e = .returned (.tuple #[.agg (hcel hZ), .int .i64 2]) ∧ Nx w w' := by
  obtain ⟨hz, hzs⟩ := zero_of_info info_hash'
  have LZ := Lib.hid hZ_length
  change ∀ w, (zeroValue 30).run Tryd.prog w = .ok (.agg (hcel hZ)) w at hz
  generalize hZ = ZZ at *
  have iZ := Lib.hid (hashsz ZZ LZ.out)
  have oZ := Lib.hid (hashsame ZZ ZZ LZ.out LZ.out)
  have R1 := Row.new2 w (.cells (hcel h) 30) (hcel ZZ) 30
  have N0 := Lib.hid (((Nx.refl w).alloc (.cells (hcel h) 30)).alloc (.cells (hcel ZZ) 30))
  have h0i : ¬ n < 0 := by omega
  clear h0
  go_enter Tryd.func36, Tryd.ntmps36
  go_wp2_with (refine wpList_store_row rfl 30 (.tmp 8) (.tmp 27) rfl (w.heap.size + 1) (hcel ZZ) rfl rfl 30 (hcel ZZ) R1 iZ.out rfl (hcel_one _) ?_)
  exact bodyPost_ret (results_cell_two Tryd.results36 _ _ (w.heap.size + 1) 30 (hcel ZZ) (0, 0) _ rfl (R1.setRow _) Tryd.underlying30 rfl iZ.out) rfl ⟨rfl, N0.out.setRow _ (Nat.le_succ _)⟩

set_option maxRecDepth 100000 in
set_option maxHeartbeats 4000000 in
theorem rleads_arg_c (h : List UInt8) (n many : Int) (v : Value) (w : World) (hh : h.length = 32) (h0 : 0 ≤ n) (h1 : n < many) (hlt : 1048576 < many) :
    Calls Tryd.prog 36 #[.agg (hcel h), .int .i64 n, .int .i64 many, v] w fun e w' => e = .returned (.tuple #[.agg (hcel hZ), .int .i64 2]) ∧ Nx w w' := by
  obtain ⟨hz, hzs⟩ := zero_of_info info_hash'
  have LZ := Lib.hid hZ_length
  change ∀ w, (zeroValue 30).run Tryd.prog w = .ok (.agg (hcel hZ)) w at hz
  generalize hZ = ZZ at *
  have iZ := Lib.hid (hashsz ZZ LZ.out)
  have oZ := Lib.hid (hashsame ZZ ZZ LZ.out LZ.out)
  have R1 := Row.new2 w (.cells (hcel h) 30) (hcel ZZ) 30
  have N0 := Lib.hid (((Nx.refl w).alloc (.cells (hcel h) 30)).alloc (.cells (hcel ZZ) 30))
  have h0i : ¬ n < 0 := by omega
  have h1i : ¬ many ≤ n := by omega
  clear h0 h1
  go_enter Tryd.func36, Tryd.ntmps36
  go_wp2_with (refine wpList_store_row rfl 30 (.tmp 8) (.tmp 27) rfl (w.heap.size + 1) (hcel ZZ) rfl rfl 30 (hcel ZZ) R1 iZ.out rfl (hcel_one _) ?_)
  exact bodyPost_ret (results_cell_two Tryd.results36 _ _ (w.heap.size + 1) 30 (hcel ZZ) (0, 0) _ rfl (R1.setRow _) Tryd.underlying30 rfl iZ.out) rfl ⟨rfl, N0.out.setRow _ (Nat.le_succ _)⟩

theorem rleads_arg (h : List UInt8) (n many : Int) (v : Value) (w : World) (hh : h.length = 32) (hlt : ¬ (0 ≤ n ∧ n < many ∧ many ≤ 1048576)) :
    Calls Tryd.prog 36 #[.agg (hcel h), .int .i64 n, .int .i64 many, v] w fun e w' => e = .returned (.tuple #[.agg (hcel hZ), .int .i64 2]) ∧ Nx w w' := by
  rcases Int.lt_or_le n 0 with h0 | h0
  · exact rleads_arg_a h n many v w hh h0
  · rcases Int.lt_or_le n many with h1 | h1
    · exact rleads_arg_c h n many v w hh h0 h1 (by omega)
    · exact rleads_arg_b h n many v w hh h0 h1
end Go.Proofs.YtjbeemoobmagnaaDoor
