/- CONTRACTS OF LAYER 2: rounds. -/
import Derived.Test.YtpgdfboogjapeaaDoorSha4
namespace Go.Proofs.YtpgdfboogjapeaaDoor
open Go.RowKit
set_option linter.unusedVariables false
set_option linter.unusedSimpArgs false

section
variable {P : Program}
/-- A cut of a slice up to its end, short of its capacity. -/
theorem slice_from (t e : TypeId) (ht : P.underlying t = some (.slice e)) (hsz : ∀ w, (sizeOf e).run P w = .ok 1 w) (b o len c lo : Nat) (zl : Int) (hl : zl = lo) (h1 : lo ≤ len) (h2 : lo < c) (w : World) :
    (Instr.sliceAt t (.slice (some ⟨b, o, none⟩) len c) (some (.int .i64 zl)) none none).run P w = .ok (.slice (some ⟨b, o + lo, none⟩) (len - lo) (c - lo)) w := by
  subst hl
  have e1 : ¬ (c = lo) := by omega
  have e2 : (lo : Int) ≤ (len : Int) := by omega
  simp [Instr.sliceAt, Instr.slice, Instr.sureAddr, run_underlying ht, Instr.sliceBounds, run_sliceBound, hsz, e1, e2, h1, addr_add]
end

set_option maxRecDepth 100000 in
set_option maxHeartbeats 1000000 in
theorem rounds_any (s : St) (l : List UInt8) (N : Nat) (vb : Value) (w : World) (hs : s.ok) (hk : KIs w) (hr : Rd w vb l) (hl : l.length = 64 * N) (hn : l.length ≤ 140737488355328) :
    Calls Tryd.prog 28 #[.agg (ints .u32 s.list), vb] w fun e w' => e = .returned (.agg (ints .u32 (s.rounds l N).list)) ∧ Nx w w' := by
  obtain ⟨hz, hzs⟩ := zero_of_info info_w8
  obtain ⟨hzb, hzbs⟩ := zero_of_info info_b64
  have HK := Lib.hid hk
  have HOK := Lib.hid (fun n => St.ok.rounds hs l n)
  have HSL : Hid (s.list.length = 8) := Lib.hid rfl
  have HST : Hid (∀ k, s.rounds l (k + 1) = (s.rounds l k).round ((l.drop (64 * k)).take 64)) := Lib.hid fun _ => rfl
  have HS0 : Hid (s.rounds l 0 = s) := Lib.hid rfl
  obtain ⟨A, c, rfl, hc, hm, ha⟩ := hr
  have HA := Lib.hid ha
  have HZL : Hid ((List.replicate 64 (0 : UInt8)).length = 64) := Lib.hid List.length_replicate
  generalize List.replicate 64 (0 : UInt8) = Z at *
  clear hs hk ha
  unfold maxLen at hm
  go_enter Tryd.func28, Tryd.ntmps28
  go_wp2
  replace hz := Lib.hid hz
  replace hzs := Lib.hid hzs
  replace hzb := Lib.hid hzb
  replace hzbs := Lib.hid hzbs
  have HL := Lib.hid hl
  clear hl
  go_loopw [6] (fun i wr => ∃ k : Nat, k ≤ N ∧ i = .int .i64 ((64 * k : Nat) : Int) ∧ Hid (Nx w wr) ∧ Row wr w.heap.size (ints .u32 (s.rounds l k).list) 34 ∧ Row wr (w.heap.size + 1) (ints .u32 [0, 0, 0, 0, 0, 0, 0, 0]) 34 ∧ ∃ B : List UInt8, Hid (B.length = 64) ∧ Row wr (w.heap.size + 1 + 1) (hcel B) 35) (fun i _ => 64 * N - (intOf i).toNat)
  case atStart =>
    refine ⟨0, by omega, rfl, (((Nx.refl w).alloc _).alloc _).alloc _, ?_, (Row.new2 _ _ _ _).alloc _, Z, HZL, Row.new3 _ _ _ _ _⟩
    rw [HS0.out]
    exact ((Row.new _ _ _ _ rfl).alloc _).alloc _
  case round =>
    obtain ⟨k, hk, rfl, HN, R0, R1, B, HB, R2⟩ := hrel
    by_cases hlt : k < N
    · have hlk : 64 * k + 64 ≤ l.length := by have := HL.out; omega
      obtain ⟨b, o, rfl, hb, hcell⟩ := HA.out (by omega)
      have hsl1 := fun w' => slice_arr_all (P := Tryd.prog) 35 5 64 Tryd.underlying35 Tryd.sizeOf5 (w.heap.size + 1 + 1) (by omega) w'
      have hsl2 := fun w' => slice_from (P := Tryd.prog) 22 5 Tryd.underlying22 Tryd.sizeOf5 b o l.length c (64 * k) ((64 * k : Nat) : Int) rfl (by omega) (by omega) w'
      have hlt2 : ((64 * k : Nat) : Int) < (l.length : Int) := by omega
      have HC : Hid (∀ j v, (bvs ((l.drop (64 * k)).take 64))[j]? = some v → wr.cell? ((⟨b, o + 64 * k, none⟩ : Addr).add j) = some v) := Lib.hid fun j v hv => by
        obtain ⟨hj, rfl⟩ := bvs_get hv
        have hj2 : j < 64 := by simp at hj; omega
        have := hcell (64 * k + j) (by omega)
        rw [← Nat.add_assoc] at this
        rw [addr_add, HN.out.cell (p := ⟨b, o + 64 * k + j, none⟩) hb, this]
        simp
      have HPL : Hid (((l.drop (64 * k)).take 64).length = 64) := Lib.hid (by simp; omega)
      have HSK := Lib.hid (HST.out k)
      have HO := Lib.hid (HOK.out k)
      have HLK := Lib.hid hlk
      clear hcell hb HA HST HOK hlk
      generalize s.rounds l k = t at *
      generalize (l.drop (64 * k)).take 64 = PT at *
      generalize hat : 64 * k = at_ at *
      replace hat := Lib.hid hat
      generalize l.length = len at *
      go_wp2
      go_still_tail 4, (by kernel_rfl)
      change wpList _ _ _ _ _ wr.drew
      have hu8 : (Tryd.prog.info? 5).map (·.size) = some 1 := by kernel_rfl
      have HMIN : Hid ((bvs PT).length = Nat.min (len - at_) 64) := Lib.hid (by
        rw [bvs_length, HPL.out]
        have := HLK.out
        exact (Nat.min_eq_right (by omega)).symm)
      have HFIT : Hid (0 + (bvs PT).length ≤ (hcel B).size) := Lib.hid (by rw [bvs_length, HPL.out, hcel_size, HB.out]; decide)
      have HEQ : Hid (((hcel B).toList.take 0 ++ (bvs PT ++ (hcel B).toList.drop (0 + (bvs PT).length))).toArray = hcel PT) := Lib.hid (by
        rw [List.drop_of_length_le (by rw [Array.length_toList, hcel_size, HB.out, bvs_length, HPL.out]; decide)]
        simp [hcel])
      have R2' : Row wr.drew (w.heap.size + 1 + 1) (hcel B) 35 := R2
      refine wpList_copy_own rfl (.tmp 13) (.tmp 16) _ _ rfl 5 Tryd.underlying22 hu8 (w.heap.size + 1 + 1) 0 64 64 ⟨b, o + at_, none⟩ (len - at_) (c - at_) rfl rfl (hcel B) 35 R2' (bvs PT) HMIN.out HC.out HFIT.out (bvs_one _) ?_
      rw [HEQ.out]
      have HN2 : Hid (Nx w (wr.drew.setRow (w.heap.size + 1 + 1) (hcel PT))) := Lib.hid (HN.out.drew.setRow _ (by omega))
      have R0' := Row.setRow_other (show Row wr.drew w.heap.size _ _ from R0) (k := w.heap.size + 1 + 1) (hcel PT) (by omega)
      have R1' := Row.setRow_other (show Row wr.drew (w.heap.size + 1) _ _ from R1) (k := w.heap.size + 1 + 1) (hcel PT) (by omega)
      have R2'' := Row.setRow R2' (hcel PT)
      clear R0 R1 R2 R2' HC HMIN HFIT HEQ HN hsl1 hsl2
      generalize wr.drew.setRow (w.heap.size + 1 + 1) (hcel PT) = wq at *
      have hz8 : (Tryd.prog.info? 34).map (·.size) = some (ints .u32 t.list).size := by rw [ints_size]; exact hzs.out
      replace hz8 := Lib.hid hz8
      have hz64 : (Tryd.prog.info? 35).map (·.size) = some (hcel PT).size := by rw [hcel_size, HPL.out]; exact hzbs.out
      replace hz64 := Lib.hid hz64
      have HRD := Lib.hid (round_any t PT wq HO.out HPL.out (HK.out.nx HN2.out))
      rw [← HSK.out] at HRD
      go_wp2_with (first
        | (refine wpList_load_row rfl 34 (.tmp 2) rfl w.heap.size rfl 34 (ints .u32 t.list) (0, 0) _ R0' Tryd.underlying34 rfl hz8.out ?_)
        | (refine wpList_load_row rfl 35 (.tmp 5) rfl (w.heap.size + 1 + 1) rfl 35 (hcel PT) (0, 0) _ R2'' Tryd.underlying35 rfl hz64.out ?_))
      refine HRD.out.mono ?_
      rintro e w2 ⟨rfl, hb2⟩
      have HN3 := Lib.hid (HN2.out.trans hb2)
      have R0n := R0'.nx hb2
      have R1n := R1'.nx hb2
      have R2n := R2''.nx hb2
      clear hb2 R0' R1' R2'' HN2 HRD hz64
      have HTL : Hid (t.list.length = 8) := Lib.hid rfl
      have HSL2 : Hid ((s.rounds l (k + 1)).list.length = 8) := Lib.hid rfl
      generalize HG : (s.rounds l (k + 1)).list = SL at *
      replace HG := Lib.hid HG
      generalize t.list = TL at *
      have hz9 : (Tryd.prog.info? 34).map (·.size) = some (ints .u32 SL).size := by rw [ints_size, HSL2.out]; exact hzs.out
      replace hz9 := Lib.hid hz9
      have ho9 : (ints .u32 TL).size = (ints .u32 SL).size := by rw [ints_size, ints_size, HTL.out, HSL2.out]
      replace ho9 := Lib.hid ho9
      clear HSK HO
      go_wp2_with (refine wpList_store_row rfl 34 (.tmp 2) (.tmp 20) rfl w.heap.size (ints .u32 SL) rfl rfl 34 (ints .u32 TL) R0n hz9.out ho9.out (ints_one _ _) ?_)
      go_roundw
      case rel =>
        refine ⟨k + 1, by omega, ?_, HN3.out.setRow _ (by omega), ?_, R1n.setRow_other _ (by omega), PT, HPL, R2n.setRow_other _ (by omega)⟩
        · have := hat.out
          have e : (at_ : Int) + 64 = ((64 * (k + 1) : Nat) : Int) := by omega
          rw [e]
        · rw [HG.out]
          exact R0n.setRow _
      case measure =>
        have := hat.out
        have := HLK.out
        have := HL.out
        simp [intOf]; omega
    · obtain rfl : k = N := by omega
      have HNE : Hid (¬ ((64 * k : Nat) : Int) < (l.length : Int)) := Lib.hid (by have := HL.out; omega)
      have hne := HNE.out
      have HG : Hid ((s.rounds l k).list.length = 8) := Lib.hid rfl
      obtain ⟨SL, hSL⟩ : ∃ SL, (s.rounds l k).list = SL := ⟨_, rfl⟩
      rw [hSL] at R0 HG
      replace hSL := Lib.hid hSL
      have hz9 : (Tryd.prog.info? 34).map (·.size) = some (ints .u32 SL).size := by rw [ints_size, HG.out]; exact hzs.out
      replace hz9 := Lib.hid hz9
      have ho9 : (ints .u32 [0, 0, 0, 0, 0, 0, 0, 0]).size = (ints .u32 SL).size := by rw [ints_size, ints_size, HG.out]; rfl
      replace ho9 := Lib.hid ho9
      have hl1 : w.heap.size ≤ w.heap.size + 1 := by omega
      clear HA HST HOK HS0 HL
      generalize 64 * k = at_ at *
      go_wp2_with (first | (refine wpList_load_row rfl 34 (.tmp 2) rfl w.heap.size rfl 34 (ints .u32 SL) (0, 0) _ R0 Tryd.underlying34 rfl hz9.out ?_) | (refine wpList_store_row rfl 34 (.tmp 4) (.tmp 21) rfl (w.heap.size + 1) (ints .u32 SL) rfl rfl 34 (ints .u32 [0, 0, 0, 0, 0, 0, 0, 0]) R1 hz9.out ho9.out (ints_one _ _) ?_))
      exact bodyPost_ret (results_cell_row Tryd.results28 _ _ (w.heap.size + 1) 34 (ints .u32 SL) (0, 0) _ rfl (R1.setRow _) Tryd.underlying34 rfl hz9.out) rfl ⟨by rw [hSL.out], HN.out.setRow _ hl1⟩
end Go.Proofs.YtpgdfboogjapeaaDoor
