/- CONTRACTS OF LAYER 2: putHigh, told, ending. -/
import Derived.Test.YtpgdfboogjapeaaDoorSha3
import Derived.Test.YtpgdfboogjapeaaDoorShaPure2
import Derived.Test.YtpgdfboogjapeaaDoorShaSl
namespace Go.Proofs.YtpgdfboogjapeaaDoor
open Go.RowKit
set_option linter.unusedVariables false
set_option linter.unusedSimpArgs false

theorem Row.only {w w' : World} {h g : Nat} {cs : Array Value} {t : TypeId} (r : Row w h cs t) (k : Only g w w') (hg : h ≠ g) : Row w' h cs t := by
  unfold Row
  rw [k.2.2.2.2 h hg]; exact r
theorem u8_shr' (n p k : Nat) (hp : p = 8 * k) : (n : Int) / 2 ^ p % 256 = ((UInt8.ofNat (n / 256 ^ k)).toNat : Int) := by
  subst hp
  have e2 : (2 : Nat) ^ (8 * k) = 256 ^ k := by rw [Nat.pow_mul]
  have e3 : ((n : Int) / 2 ^ (8 * k)) = ((n / 256 ^ k : Nat) : Int) := by
    rw [← e2]; simp
  rw [e3, UInt8.toNat_ofNat']
  omega

set_option maxHeartbeats 1000000 in
theorem putHigh_any (g o m c : Nat) (L : List UInt8) (T : TypeId) (n : Nat) (w : World) (hr : Row w g (hcel L) T) (hm : m ≤ 8) (hmc : m ≤ c) (hc : c ≤ 1000) (ho : o + m ≤ L.length) (hn : n < 18446744073709551616) :
    Calls Tryd.prog 39 #[.slice (some ⟨g, o, none⟩) m c, .int .u64 (n : Int)] w fun e w' => e = .returned (.tuple #[]) ∧ Only g w w' ∧ Row w' g (hcel (putL L (o + m) n m)) T := by
  have hni : (n : Int) < 18446744073709551616 := by omega
  have HO := Lib.hid ho
  clear ho hn
  replace hr := Lib.hid hr
  go_enter Tryd.func39, Tryd.ntmps39
  go_wp2
  go_loopw [7] (fun i wr => ∃ k : Nat, k ≤ m ∧ i = .int .i64 k ∧ Hid (Only g w wr) ∧ Row wr g (hcel (putL L (o + m) n k)) T) (fun i _ => m - (intOf i).toNat)
  case atStart => exact ⟨0, by omega, rfl, Only.refl _ _, by rw [putL_zero]; exact hr.out⟩
  case round =>
    obtain ⟨k, hk, rfl, HN, R⟩ := hrel
    by_cases hlt : k < m
    · have hlti : (k : Int) < (m : Int) := by omega
      have HL := Lib.hid (putL_length L (o + m) n k (by omega) HO.out)
      have HS := Lib.hid (putL_set L (o + m) n k (by omega) HO.out)
      obtain ⟨q, hq⟩ : ∃ q : Nat, (m : Int) - 1 - (k : Int) = (q : Int) := ⟨m - 1 - k, by omega⟩
      obtain ⟨p, hp⟩ : ∃ p : Nat, 8 * (k : Int) = (p : Int) := ⟨8 * k, by omega⟩
      have hp64 : (p : Int) < 64 := by omega
      have hz : o + m - 1 - k = o + q := by omega
      rw [hz] at HS
      have hql : o + q < (putL L (o + m) n k).length := by rw [HL.out]; have := HO.out; omega
      have c1 : wr.cell? ⟨g, o + q, none⟩ = some (bv (putL L (o + m) n k)[o + q]) := R.cell (hcel_get _ _ hql)
      have f1 := R.frozen
      have HB := Lib.hid (u8_shr' n p k (by omega))
      have HX := Lib.hid (hcel_set (putL L (o + m) n k) (o + q) (UInt8.ofNat (n / 256 ^ k)) hql)
      generalize (putL L (o + m) n k)[o + q] = y at *
      clear hz hql HL
      have hqm : (q : Int) < (m : Int) := by omega
      go_wp2
      go_roundw
      case rel =>
        refine ⟨k + 1, by omega, by go_num, HN.out.trans (Only.set _ _ _ _), ?_⟩
        rw [← HS.out, ← HX.out, HB.out]
        exact R.set _ _
      case measure => simp [intOf]; omega
    · obtain rfl : k = m := by omega
      go_wp2
      go_end0
      exact ⟨rfl, HN.out, R⟩

theorem info_hash' : (Tryd.prog.info? 24).map (fun i => (i.zero, i.size)) = some (some (.agg (hcel (List.replicate 32 0))), 32) := by kernel_rfl
theorem hcel_size' (l : List UInt8) (n : Nat) (h : l.length = n) : (hcel l).size = n := by rw [hcel_size, h]

set_option maxHeartbeats 1000000 in
theorem told_any (s : St) (w : World) (hs : s.ok) :
    Calls Tryd.prog 29 #[.agg (ints .u32 s.list)] w fun e w' => e = .returned (.agg (hcel (hashL s))) ∧ Nx w w' := by
  obtain ⟨hz, hzs⟩ := zero_of_info info_hash'
  have HALL : Hid (hashP s.list 8 = hashL s) := Lib.hid (hashP_all s)
  have HHL := Lib.hid (hashL_length s)
  have HWD := Lib.hid (St.list_wd hs)
  have HSL : Hid (s.list.length = 8) := Lib.hid rfl
  clear hs
  generalize hashL s = H at *
  generalize s.list = S at *
  have hsw : (Tryd.prog.info? 34).map (·.size) = some (ints .u32 S).size := by rw [ints_size, HSL.out]; kernel_rfl
  replace hsw := Lib.hid hsw
  have HX := Lib.hid (fun i (hi : i < S.length) w => run_index_ints (P := Tryd.prog) .u32 34 33 8 Tryd.underlying34 Tryd.isAgg33 Tryd.sizeOf33 S HSL.out i hi w)
  have HZL : Hid ((List.replicate 32 (0 : UInt8)).length = 32) := Lib.hid List.length_replicate
  have HZ0 : Hid (hashP S 0 = List.replicate 32 0) := Lib.hid (hashP_zero S)
  have HPL := Lib.hid (fun k hk => hashP_length S k hk HSL.out)
  have HPN := Lib.hid (fun k hk => hashP_next S k hk HSL.out)
  generalize List.replicate 32 (0 : UInt8) = Z at *
  go_enter Tryd.func29, Tryd.ntmps29
  go_wp2_with (refine wpList_load_row rfl 34 (.tmp 1) rfl w.heap.size rfl 34 (ints .u32 S) (0, 0) _ (((Row.new w (ints .u32 S) 34 _ rfl).alloc _).alloc _) Tryd.underlying34 rfl hsw.out ?_)
  replace hz := Lib.hid hz
  replace hzs := Lib.hid hzs
  go_loopw [7] (fun i wr => ∃ k : Nat, k ≤ 8 ∧ i = .int .i64 k ∧ Hid (Nx w wr) ∧ Row wr (w.heap.size + 1) (hcel Z) 24 ∧ Row wr (w.heap.size + 1 + 1) (hcel (hashP S k)) 24) (fun i _ => 8 - (intOf i).toNat)
  case atStart =>
    refine ⟨0, by omega, rfl, (((Nx.refl w).alloc _).alloc _).alloc _, (Row.new2 _ _ _ _).alloc _, ?_⟩
    rw [HZ0.out]
    exact Row.new3 _ _ _ _ _
  case round =>
    obtain ⟨k, hk, rfl, HN, R1, R2⟩ := hrel
    by_cases hlt : k < 8
    · have hkl : k < S.length := by rw [HSL.out]; exact hlt
      have hidx := HX.out k hkl
      have HL := Lib.hid (HPL.out k hk)
      have HE := HPN.out k hlt
      have hwd := HWD.out k
      have hge : S.getD k 0 = S[k] := by rw [List.getD_eq_getElem?_getD, List.getElem?_eq_getElem hkl]; rfl
      rw [hge] at hwd HE
      replace HE := Lib.hid HE
      generalize S[k] = x at *
      obtain ⟨x0, x1⟩ := hwd
      obtain ⟨n, rfl⟩ := Int.eq_ofNat_of_zero_le x0
      have hwx : IntKind.u64.wrap (n : Int) = (n : Int) := by rw [IntKind.wrap_u64]; omega
      have HPU := Lib.hid (fun w' r => putHigh_any (w.heap.size + 1 + 1) (4 * k) 4 (32 - 4 * k) (hashP S k) 24 n w' r (by omega) (by omega) (by omega) (by rw [HL.out]; omega) (by omega))
      have hsl := fun w' => slice_arr (P := Tryd.prog) 24 5 32 Tryd.underlying24 Tryd.sizeOf5 (w.heap.size + 1 + 1) (4 * k) (4 * k + 4) ((k : Int) * 4) (((k : Int) + 1) * 4) (by omega) (by omega) (by omega) (by omega) (by omega) w'
      rw [show 4 * k + 4 - 4 * k = 4 by omega] at hsl
      clear HX hkl hge HPL HPN HWD HSL HZ0 x0 x1
      go_wp2_with fail
      refine (HPU.out _ R2).mono ?_
      rintro e w1 ⟨rfl, ho, R3⟩
      go_wp2
      go_roundw
      case rel =>
        refine ⟨k + 1, by omega, by go_num, HN.out.only ho (by omega), R1.only ho (by omega), ?_⟩
        rw [← HE.out]
        exact R3
      case measure => simp [intOf]; omega
    · obtain rfl : k = 8 := by omega
      rw [HALL.out] at R2
      have hz1 : (Tryd.prog.info? 24).map (·.size) = some (hcel H).size := by rw [hcel_size, HHL.out]; exact hzs.out
      replace hz1 := Lib.hid hz1
      have ho : (hcel Z).size = (hcel H).size := by rw [hcel_size, hcel_size, HHL.out, HZL.out]
      replace ho := Lib.hid ho
      have hl : w.heap.size ≤ w.heap.size + 1 := by omega
      clear HX HPL HPN HWD HSL
      go_wp2_with (first | (refine wpList_load_row rfl 24 (.tmp 3) rfl (w.heap.size + 1 + 1) rfl 24 (hcel H) (0, 0) _ R2 Tryd.underlying24 rfl hz1.out ?_) | (refine wpList_store_row rfl 24 (.tmp 2) (.tmp 21) rfl (w.heap.size + 1) (hcel H) rfl rfl 24 (hcel Z) R1 hz1.out ho.out (hcel_one _) ?_))
      exact bodyPost_ret (results_cell_row Tryd.results29 _ _ (w.heap.size + 1) 24 (hcel H) (0, 0) _ rfl (R1.setRow _) Tryd.underlying24 rfl hz1.out) rfl ⟨rfl, HN.out.setRow _ hl⟩

theorem info_u8s : (Tryd.prog.info? 5).map (fun i => (i.zero, i.size, i.bytes)) = some (some (.int .u8 0), 1, 1) := by kernel_rfl

set_option maxHeartbeats 1000000 in
theorem ending_any (n : Nat) (w : World) (hn : n ≤ 140737488355328) :
    Calls Tryd.prog 31 #[.int .i64 (n : Int)] w fun e w' => ∃ v, e = .returned v ∧ Own w.heap.size w' v (padB n) ∧ Nx w w' := by
  have hmk := run_mk (P := Tryd.prog) 22 Tryd.underlying22 info_u8s .i64 .i64 (1 + gapN n + 8) (by unfold gapN; omega)
  rw [show ((1 + gapN n + 8 : Nat) : Int) = 1 + (gapN n : Int) + 8 by omega] at hmk
  have hg : (64 - ((n : Int) + 1 + 8) % 64) % 64 = (gapN n : Int) := by unfold gapN; omega
  have HGL : Hid (gapN n < 64) := Lib.hid (by unfold gapN; omega)
  have HPB := Lib.hid (padB_put n)
  have HPL := Lib.hid (padB_length n)
  have hni : (n : Int) ≤ 140737488355328 := by omega
  have hw8 : IntKind.u64.wrap (n : Int) = (n : Int) := by rw [IntKind.wrap_u64]; omega
  have hw9 : 8 * (n : Int) = ((8 * n : Nat) : Int) := by omega
  have hw10 : IntKind.u64.wrap ((8 * n : Nat) : Int) = ((8 * n : Nat) : Int) := by rw [IntKind.wrap_u64]; omega
  have H8 : Hid (8 * n < 18446744073709551616) := Lib.hid (by omega)
  generalize padB n = PB at *
  generalize gapN n = z at *
  generalize 8 * n = n8 at *
  have hz63 : (z : Int) ≤ 63 := by have := HGL.out; omega
  go_enter Tryd.func31, Tryd.ntmps31
  have HZ : Hid ((zer (1 + z + 8)).setIfInBounds 0 (.int .u8 128) = hcel ((List.replicate (1 + z + 8) 0).set 0 128)) := Lib.hid (hcel_set (List.replicate (1 + z + 8) 0) 0 128 (by simp))
  have HLL : Hid (((List.replicate (1 + z + 8) (0 : UInt8)).set 0 128).length = 1 + z + 8) := Lib.hid (by simp)
  go_wp2_with fail
  rw [HZ.out]
  refine (putHigh_any w.heap.size (1 + z) 8 8 _ 5 n8 _ (Row.new _ _ _ _ rfl) (by omega) (by omega) (by omega) (by rw [HLL.out]; omega) H8.out).mono ?_
  rintro e w1 ⟨rfl, ho, R3⟩
  rw [HPB.out] at R3
  have HN : Hid (Nx w w1) := Lib.hid (((Nx.refl w).alloc _).only ho (Nat.le_refl _))
  replace R3 := Lib.hid R3
  clear ho
  go_wp2
  go_ret
  refine ⟨_, rfl, .inr ⟨w.heap.size, PB, ?_, Nat.le_refl _, R3.out, Nat.le_refl _, ?_, List.take_of_length_le (Nat.le_refl _)⟩, HN.out⟩
  · rw [HPL.out]; rfl
  · rw [HPL.out]; simp only [maxLen]; omega
end Go.Proofs.YtpgdfboogjapeaaDoor
