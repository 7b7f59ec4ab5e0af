/- LAYER 12: the walks of CellNumbers, CellBack. -/
import Derived.Test.YtbhoflmdhlchlaaCell6
namespace Go.Proofs.Ytbhoflmdhlchlaa
open Go Go.RowKit
set_option linter.unusedVariables false
set_option linter.unusedSimpArgs false

set_option maxHeartbeats 2000000 in
set_option maxRecDepth 100000 in
theorem cellNumbers_law {w : World} (n : Int) (a1 : -9223372036854775808 ≤ n) (a2 : n ≤ 9223372036854775807) (v : Value) (l : List UInt8) (hr : Rd w v l) (hl : l.length ≤ 140737488351232) (is : Bool) :
    Calls Try.prog 8 #[.int .i64 n, v, .bool is] w fun e w' => e = .returned (.bool true) ∧ Nx w w' := by
  have HR := Lib.hid hr
  have H1 := Lib.hid (fun w h => cnumber_any v l w h)
  have H2 := Lib.hid (fun w h => rnumber_any v l w h)
  have H3 := Lib.hid (fun w => cbytes_any n w ⟨a1, a2⟩)
  have H4 := Lib.hid (fun w => rbytes_any n w ⟨a1, a2⟩)
  have H5 := Lib.hid (fun w h => ctrue_any v l w h)
  have H6 := Lib.hid (fun w h => rtrue_any v l w h)
  have H7 := Lib.hid (fun w => cbool_any is w)
  have H8 := Lib.hid (fun w => rbool_any is w)
  have e1 : ∀ x : Int, (x == x) = true := fun x => by simp
  have e2 : ∀ x : Bool, (x == x) = true := fun x => by simp
  generalize numV l = V at *
  generalize numE l = E at *
  generalize bytesI n = bs at *
  generalize nz l = z at *
  generalize boolL is = bl at *
  obtain ⟨A, c, rfl, -⟩ := hr
  go_enter Try.func8, Try.ntmps8
  go_wp2_with fail
  refine (H1.out w HR.out).mono ?_
  rintro e w1 ⟨rfl, n1⟩
  have N1 := Lib.hid n1
  clear n1
  go_wp2_with fail
  refine (H2.out w1 (HR.out.nx N1.out)).mono ?_
  rintro e w2 ⟨rfl, n2⟩
  have N2 := Lib.hid (N1.out.trans n2)
  clear n2
  go_wp2_with fail
  refine (H3.out w2).mono ?_
  rintro e w3 ⟨v3, rfl, o3, n3⟩
  have N3 := Lib.hid (N2.out.trans n3)
  have R3 := Lib.hid o3.rd
  clear o3 n3
  go_wp2_with fail
  refine (H4.out w3).mono ?_
  rintro e w4 ⟨v4, rfl, o4, n4⟩
  have N4 := Lib.hid (N3.out.trans n4)
  have R34 := Lib.hid (R3.out.nx n4)
  have R4 := Lib.hid o4.rd
  clear o4 n4
  go_wp2_with fail
  refine (same_yes _ _ bs _ R34.out R4.out).mono ?_
  rintro e w5 ⟨rfl, n5⟩
  have N5 := Lib.hid (N4.out.trans n5)
  clear n5
  go_wp2_with fail
  refine (H5.out w5 (HR.out.nx N5.out)).mono ?_
  rintro e w6 ⟨rfl, rfl⟩
  go_wp2_with fail
  refine (H6.out w5 (HR.out.nx N5.out)).mono ?_
  rintro e w6 ⟨rfl, rfl⟩
  go_wp2_with fail
  refine (H7.out w5).mono ?_
  rintro e w7 ⟨v7, rfl, o7, n7⟩
  have N7 := Lib.hid (N5.out.trans n7)
  have R7 := Lib.hid o7.rd
  clear o7 n7
  go_wp2_with fail
  refine (H8.out w7).mono ?_
  rintro e w8 ⟨v8, rfl, o8, n8⟩
  have N8 := Lib.hid (N7.out.trans n8)
  have R78 := Lib.hid (R7.out.nx n8)
  have R8 := Lib.hid o8.rd
  clear o8 n8
  go_wp2_with fail
  refine (same_yes _ _ bl _ R78.out R8.out).mono ?_
  rintro e w9 ⟨rfl, n9⟩
  have N9 := Lib.hid (N8.out.trans n9)
  clear n9
  go_wp2_with fail
  refine (clives_any w9).mono ?_
  rintro e w10 ⟨rfl, n10⟩
  go_wp2_with fail
  go_ret
  exact ⟨rfl, N9.out.trans n10⟩

theorem bytesI_len8 (n : Int) (hn : -9223372036854775808 ≤ n ∧ n ≤ 9223372036854775807) : (bytesI n).length ≤ 8 := by
  unfold bytesI; rw [loI_length]; exact (szI_spec n hn).1
theorem numI_bytes (n : Int) (hn : -9223372036854775808 ≤ n ∧ n ≤ 9223372036854775807) : numI (bytesI n) = n := by
  obtain ⟨h1, h2, -⟩ := szI_spec n hn
  have := numI_loI n (szI n) h1 hn
  rw [h2] at this
  exact eq_of_beq this
theorem numVE_bytes (n : Int) (hn : -9223372036854775808 ≤ n ∧ n ≤ 9223372036854775807) : numV (bytesI n) = n ∧ numE (bytesI n) = 0 := by
  have h1 := bytesI_len8 n hn
  have h2 := numI_bytes n hn
  unfold numV numE
  rw [h2]
  exact ⟨if_pos ⟨h1, rfl⟩, if_pos ⟨h1, rfl⟩⟩
theorem numE_ok (l : List UInt8) (h : numE l = 0) : bytesI (numV l) = l ∧ (-9223372036854775808 ≤ numV l ∧ numV l ≤ 9223372036854775807) := by
  unfold numE at h
  by_cases hc : l.length ≤ 8 ∧ bytesI (numI l) = l
  · unfold numV
    rw [if_pos hc]
    exact ⟨hc.2, numI_range l hc.1⟩
  · rw [if_neg hc] at h; cases h
set_option maxHeartbeats 2000000 in
set_option maxRecDepth 100000 in
theorem cellBack_law {w : World} (n : Int) (a1 : -9223372036854775808 ≤ n) (a2 : n ≤ 9223372036854775807) (v : Value) (l : List UInt8) (hr : Rd w v l) (hl : l.length ≤ 140737488351232) :
    Calls Try.prog 11 #[.int .i64 n, v] w fun e w' => e = .returned (.bool true) ∧ Nx w w' := by
  have HR := Lib.hid hr
  have H1 := Lib.hid (fun w => cbytes_any n w ⟨a1, a2⟩)
  have H2 : Hid (∀ v w, Rd w v (bytesI n) → Calls Try.prog 26 #[v] w fun e w' => e = .returned (.tuple #[.int .i64 n, .int .i64 0]) ∧ Nx w w') := Lib.hid fun v w h => by
    have := cnumber_any v _ w h
    obtain ⟨h1, h2⟩ := numVE_bytes n ⟨a1, a2⟩
    rwa [h1, h2] at this
  have H3 := Lib.hid (fun w h => cnumber_any v l w h)
  have H4 : Hid (numE l = 0 → ∀ w, Calls Try.prog 28 #[.int .i64 (numV l)] w fun e w' => ∃ v, e = .returned v ∧ Own w.heap.size w' v l ∧ Nx w w') := Lib.hid fun h w => by
    obtain ⟨h1, h2⟩ := numE_ok l h
    have := cbytes_any (numV l) w h2
    rwa [h1] at this
  have e1 : ∀ x : Int, (x != x) = false := fun x => by simp
  generalize numV l = V at *
  generalize numE l = E at *
  generalize bytesI n = bs at *
  obtain ⟨A, c, rfl, -⟩ := hr
  by_cases hE : E = 0
  · have H4b := Lib.hid (H4.out hE)
    clear H4
    subst hE
    go_enter Try.func11, Try.ntmps11
    go_wp2_with fail
    refine (H1.out w).mono ?_
    rintro e w1 ⟨v1, rfl, o1, n1⟩
    have N1 := Lib.hid n1
    have R1 := Lib.hid o1.rd
    clear o1 n1
    go_wp2_with fail
    refine (H2.out _ w1 R1.out).mono ?_
    rintro e w2 ⟨rfl, n2⟩
    have N2 := Lib.hid (N1.out.trans n2)
    clear n2
    go_wp2_with fail
    refine (H3.out w2 (HR.out.nx N2.out)).mono ?_
    rintro e w3 ⟨rfl, n3⟩
    have N3 := Lib.hid (N2.out.trans n3)
    clear n3
    go_wp2_with fail
    refine (H4b.out w3).mono ?_
    rintro e w4 ⟨v4, rfl, o4, n4⟩
    have N4 := Lib.hid (N3.out.trans n4)
    have R4 := Lib.hid o4.rd
    clear o4 n4
    go_wp2_with fail
    refine (same_yes _ _ l _ R4.out (HR.out.nx N4.out)).mono ?_
    rintro e w5 ⟨rfl, n5⟩
    have N5 := Lib.hid (N4.out.trans n5)
    clear n5
    go_wp2_with fail
    refine (clives_any w5).mono ?_
    rintro e w6 ⟨rfl, n6⟩
    go_wp2_with fail
    go_ret
    exact ⟨rfl, N5.out.trans n6⟩
  · have dE : (E != 0) = true := by simp [hE]
    clear hE H4
    go_enter Try.func11, Try.ntmps11
    go_wp2_with fail
    refine (H1.out w).mono ?_
    rintro e w1 ⟨v1, rfl, o1, n1⟩
    have N1 := Lib.hid n1
    have R1 := Lib.hid o1.rd
    clear o1 n1
    go_wp2_with fail
    refine (H2.out _ w1 R1.out).mono ?_
    rintro e w2 ⟨rfl, n2⟩
    have N2 := Lib.hid (N1.out.trans n2)
    clear n2
    go_wp2_with fail
    refine (H3.out w2 (HR.out.nx N2.out)).mono ?_
    rintro e w3 ⟨rfl, n3⟩
    have N3 := Lib.hid (N2.out.trans n3)
    clear n3
    go_wp2_with fail
    refine (clives_any w3).mono ?_
    rintro e w6 ⟨rfl, n6⟩
    go_wp2_with fail
    go_ret
    exact ⟨rfl, N3.out.trans n6⟩
end Go.Proofs.Ytbhoflmdhlchlaa
