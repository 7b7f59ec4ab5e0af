/- LAYER 13: Secret and Bit, the program's. -/
import Derived.Test.YtpkopigiijiiiaaDoorLmP
import Derived.Test.YtpkopigiijiiiaaDoorTk
import Derived.Test.YtpkopigiijiiiaaDoorTb
namespace Go.Proofs.YtpkopigiijiiiaaDoor
open Go Go.RowKit
set_option linter.unusedVariables false
set_option linter.unusedSimpArgs false
set_option linter.unusedVariables false
set_option linter.unusedSimpArgs false

theorem u8_nat (k : Nat) (hk : k < 256) : ∃ q : UInt8, k = q.toNat := ⟨UInt8.ofNat k, by rw [UInt8.toNat_ofNat']; omega⟩
theorem secL_u8 (s : Bs) (p q : UInt8) : secL s p.toNat q.toNat = shaL (s ++ [p, q]) := by
  unfold secL
  rw [UInt8.ofNat_toNat, UInt8.ofNat_toNat]
theorem Rd.two (w : World) (p q : UInt8) (t : TypeId) : Rd (w.alloc (.cells #[bv p, bv q] t)) (.slice (some ⟨w.heap.size, 0, none⟩) 2 2) [p, q] :=
  Row.rd (l := [p, q]) (Row.new w (hcel [p, q]) t _ rfl) 2 rfl (by decide)

set_option maxHeartbeats 2000000 in
theorem secret_any (s : Bs) (hs : s.length = 32) (k v : Nat) (hk : k < 256) (hv : v < 256) (w : World) (hK : KIs w) :
    Calls Tryd.prog 8 #[.agg (hcel s), .int .u8 (k : Int), .int .u8 (v : Int)] w fun e w' => e = .returned (.agg (hcel (secL s k v))) ∧ Nx w w' := by
  obtain ⟨p, rfl⟩ := u8_nat k hk
  obtain ⟨q, rfl⟩ := u8_nat v hv
  rw [secL_u8]
  clear hk hv
  have HL := Lib.hid hs
  have HIL : Hid ((shaL (s ++ [p, q])).length = 32) := Lib.hid (shaL_length _)
  have HZL : Hid ((List.replicate 32 (0 : UInt8)).length = 32) := Lib.hid List.length_replicate
  have HTOT : Hid ((s ++ [p, q]).length = 34) := Lib.hid (by rw [List.length_append, hs]; rfl)
  have HSUM : Hid (∀ W y, Nx w W → Rd W y (s ++ [p, q]) → Calls Tryd.prog 26 #[y] W fun e w' => e = .returned (.agg (hcel (shaL (s ++ [p, q])))) ∧ Nx W w') := Lib.hid fun W y h hr => sum_any y _ W (hK.nx h) hr (by rw [HTOT.out]; decide)
  have HCC : Hid (∀ (wr : World) (x : Value), CatAt x [s, [p, q]] wr → Calls Tryd.prog 27 #[x] wr fun e w' => ∃ v, e = .returned v ∧ Own wr.heap.size w' v (s ++ [p, q]) ∧ Nx wr w') := Lib.hid fun wr x h => by
    have := concat_at wr h (by simp) (by simp [hs]) _ (Nat.le_refl _)
    simpa only [List.flatten_cons, List.flatten_nil, List.append_nil] using this
  obtain ⟨hz, hzs⟩ := zero_of_info info_hash'
  have H0 : Hid (∀ W, Row W w.heap.size (hcel s) 23 → Rd W (.slice (some ⟨w.heap.size, 0, none⟩) 32 32) s) := Lib.hid fun W h => Row.rd h 32 hs (by decide)
  generalize shaL (s ++ [p, q]) = H at *
  have HCA : Hid (∀ W A, Rd W A s → CatAt (.slice (some ⟨(W.alloc (.cells #[bv p, bv q] 5)).heap.size, 0, none⟩) 2 2) [s, [p, q]] ((W.alloc (.cells #[bv p, bv q] 5)).alloc (.cells #[A, .slice (some ⟨W.heap.size, 0, none⟩) 2 2] 28))) := Lib.hid fun W A h => catAt2 (h.nx ((Nx.refl W).alloc _)) (Rd.two W p q _)
  generalize List.replicate 32 (0 : UInt8) = Z at *
  have h2 := Lib.hid (hashsz H HIL.out)
  have h4 := Lib.hid (hashsame Z H HZL.out HIL.out)
  have R0 := Row.new2 w (.cells (hcel s) 23) (hcel Z) 23
  have Q0 := (Row.new w (hcel s) 23 _ rfl).alloc (.cells (hcel Z) 23)
  have N0 := Lib.hid (((Nx.refl w).alloc (.cells (hcel s) 23)).alloc (.cells (hcel Z) 23))
  have RD := Lib.hid (H0.out _ Q0)
  go_enter Tryd.func8, Tryd.ntmps8
  go_wp2_with fail
  refine (HCC.out _ _ (by have := HCA.out _ _ RD.out; simpa [alloc_size] using this)).mono ?_
  rintro e w1 ⟨y, rfl, o1, n1⟩
  have O1 := Lib.hid o1.rd
  obtain ⟨A1, m1, c1, rfl⟩ := o1.rd.sl
  have NA := ((Nx.refl ((w.alloc (.cells (hcel s) 23)).alloc (.cells (hcel Z) 23))).alloc (.cells #[bv p, bv q] 5)).alloc (.cells #[.slice (some ⟨w.heap.size, 0, none⟩) 32 32, .slice (some ⟨w.heap.size + 1 + 1, 0, none⟩) 2 2] 28)
  have N1 := Lib.hid (N0.out.trans (NA.trans n1))
  have R1 := R0.nx (NA.trans n1)
  clear o1 n1 NA R0 Q0 RD HCC HCA
  go_wp2_with fail
  refine (HSUM.out _ _ N1.out O1.out).mono ?_
  rintro e w2 ⟨rfl, n2⟩
  have N2 := Lib.hid (N1.out.trans n2)
  have R2 := R1.nx n2
  have hl : w.heap.size ≤ w.heap.size + 1 := Nat.le_succ _
  clear n2 R1
  go_wp2_with (refine wpList_store_row rfl 23 (.tmp 6) (.tmp 13) rfl (w.heap.size + 1) (hcel H) rfl rfl 23 (hcel Z) R2 h2.out h4.out (hcel_one _) ?_)
  exact bodyPost_ret (results_cell_row Tryd.results8 _ _ (w.heap.size + 1) 23 (hcel H) (0, 0) _ rfl (R2.setRow _) Tryd.underlying23 rfl h2.out) rfl ⟨rfl, N2.out.setRow _ hl⟩

/-- A byte turned right, its lowest bit. -/
theorem bit_val (x : UInt8) (m : Nat) : bits .and .u8 ((x.toNat : Int) / 2 ^ m) 1 = ((x.toNat / 2 ^ m % 2 : Nat) : Int) := by
  have hx := x.toNat_lt
  have h1 : x.toNat / 2 ^ m < 256 := Nat.lt_of_le_of_lt (Nat.div_le_self _ _) hx
  have e1 : (x.toNat : Int) / 2 ^ m = ((x.toNat / 2 ^ m : Nat) : Int) := by simp
  have e2 := u8_and_nat (x.toNat / 2 ^ m) 1 h1 (by decide)
  rw [Nat.and_one_is_mod] at e2
  rw [e1]
  exact e2
set_option maxHeartbeats 2000000 in
theorem bit_any (d : Bs) (hd : d.length = 32) (k : Nat) (hk : k < 256) (w : World) :
    Calls Tryd.prog 10 #[.agg (hcel d), .int .u8 (k : Int)] w fun e w' => e = .returned (.int .u8 (bitN d k : Int)) ∧ Nx w w' := by
  obtain ⟨j, hj⟩ : ∃ j, k % 32 / 8 = j := ⟨_, rfl⟩
  obtain ⟨m, hm⟩ : ∃ m, k % 8 = m := ⟨_, rfl⟩
  have hjl : j < d.length := by omega
  have hm8 : m < 8 := by omega
  have hmi : (m : Int) < 8 := by omega
  have hji : (j : Int) < 32 := by omega
  have hB : bitN d k = (d[j]).toNat / 2 ^ m % 2 := by
    unfold bitN
    rw [hj, hm, List.getD_eq_getElem?_getD, List.getElem?_eq_getElem hjl]; rfl
  rw [hB]
  have HV := Lib.hid (bit_val d[j] m)
  have R0 := Row.new w (hcel d) 23 _ rfl
  have N0 := Lib.hid ((Nx.refl w).alloc (.cells (hcel d) 23))
  have c1 := R0.cell (hcel_get d j hjl)
  have e1 : IntKind.u8.wrap ((k : Int).tmod 32) = ((k % 32 : Nat) : Int) := by rw [IntKind.wrap_u8', Int.tmod_eq_emod_of_nonneg (by omega)]; omega
  have e2 : IntKind.u8.wrap (((k % 32 : Nat) : Int).tdiv 8) = (j : Int) := by rw [IntKind.wrap_u8', Int.tdiv_eq_ediv_of_nonneg (by omega)]; omega
  have e3 : IntKind.u8.wrap (((k % 32 : Nat) : Int).tmod 8) = (m : Int) := by rw [IntKind.wrap_u8', Int.tmod_eq_emod_of_nonneg (by omega)]; omega
  generalize d[j] = x at *
  go_enter Tryd.func10, Tryd.ntmps10
  go_wp2
  go_ret
  exact ⟨by rw [HV.out]; rfl, N0.out⟩
end Go.Proofs.YtpkopigiijiiiaaDoor
