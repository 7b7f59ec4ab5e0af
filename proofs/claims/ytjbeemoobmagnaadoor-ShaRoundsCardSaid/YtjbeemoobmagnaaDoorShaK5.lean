/- LAYER 2: the document's Begin, K. -/
import Derived.Test.YtjbeemoobmagnaaDoorShaK4
import Derived.Test.YtjbeemoobmagnaaDoorGg
namespace Go.Proofs.YtjbeemoobmagnaaDoor
open Go Go.RowKit
set_option linter.unusedVariables false
set_option linter.unusedSimpArgs false
set_option linter.unusedVariables false
set_option linter.unusedSimpArgs false

/-- So many numbers of a list, and zeros. -/
def preZ (F : List Int) (n k : Nat) : List Int := F.take k ++ List.replicate (n - k) 0
theorem preZ_zero (F : List Int) (n : Nat) : preZ F n 0 = List.replicate n 0 := by simp [preZ]
theorem preZ_all (F : List Int) (n : Nat) (h : F.length = n) : preZ F n n = F := by
  unfold preZ
  rw [List.take_of_length_le (by omega)]
  simp
theorem preZ_length (F : List Int) (n k : Nat) (hk : k ≤ n) (h : F.length = n) : (preZ F n k).length = n := by
  unfold preZ
  rw [List.length_append, List.length_take, List.length_replicate]; omega
theorem preZ_next (F : List Int) (n k : Nat) (z : Int) (hk : k < n) (h : F.length = n) (hb : F[k]? = some z) : (preZ F n k).set k z = preZ F n (k + 1) := by
  obtain ⟨hb1, rfl⟩ := List.getElem?_eq_some_iff.1 hb
  unfold preZ
  rw [List.take_succ_eq_append_getElem (by omega), List.set_append_right _ _ (by rw [List.length_take]; omega)]
  rw [show k - (F.take k).length = 0 by rw [List.length_take]; omega, show n - k = (n - (k + 1)) + 1 by omega, List.replicate_succ, List.set_cons_zero, List.append_assoc]
  rfl
theorem pr_small (l : List Nat) (h : ∀ x ∈ l, x < 1000) (x : Nat) (hx : x ∈ l) : x < 1000 := h x hx

set_option maxRecDepth 100000 in
set_option maxHeartbeats 4000000 in
theorem rk_any (w : World) : Calls Tryd.prog 43 #[] w fun e w' => e = .returned (.agg (ints .u32 kL)) ∧ Nx w w' := by
  obtain ⟨hz, hzs⟩ := zero_of_info info_w64
  have HP := Lib.hid (fun w => by have := kprimes_any 64 w (by decide) (by rw [prL_is]; rfl); rw [prL_is] at this; exact this)
  have HFL : Hid ((kL : List Int).length = 64) := Lib.hid (by first | exact kL_length | rfl)
  have HG : Hid (∀ k (h : k < (prL).length), (prL)[k] < 1000 ∧ (kL : List Int)[k]? = some ((partF (prL)[k] true 40 0 % 4294967296 : Nat) : Int)) := Lib.hid fun k h => ⟨pr_small (prL) (by decide) _ (List.getElem_mem h), by rw [← k_is, List.getElem?_map, List.getElem?_eq_getElem h]; rfl⟩
  have HPL : Hid ((prL).length = 64) := Lib.hid rfl
  have HZ : Hid ((List.replicate 64 0 : List Int) = preZ kL 64 0) := Lib.hid (by rw [preZ_zero]; first | done | rfl)
  have HZL : Hid ((List.replicate 64 0 : List Int).length = 64) := Lib.hid (by first | rfl | exact List.length_replicate)
  have HPA : Hid (preZ kL 64 64 = kL) := Lib.hid (preZ_all _ _ HFL.out)
  have HPN := Lib.hid (fun k z (h : k < 64) => preZ_next kL 64 k z h HFL.out)
  have HPZ := Lib.hid (fun k (h : k ≤ 64) => preZ_length kL 64 k h HFL.out)
  generalize (List.replicate 64 0 : List Int) = Z at *
  generalize (kL : List Int) = F at *
  generalize (prL : List Nat) = P at *
  go_enter Tryd.func43, Tryd.ntmps43
  go_wp2_with fail
  have R0 := Row.new w (ints .u32 Z) 59 _ rfl
  have N0 := Lib.hid ((Nx.refl w).alloc (.cells (ints .u32 Z) 59))
  refine (HP.out _).mono ?_
  rintro e w1 ⟨v1, rfl, r1, n1⟩
  have N1 := Lib.hid ((N0.out.trans n1).alloc (.cells (ints .u32 Z) 59))
  have R1 := (R0.nx n1).alloc (.cells (ints .u32 Z) 59)
  have R2 : Row (w1.alloc (.cells (ints .u32 Z) 59)) w1.heap.size (ints .u32 (preZ F 64 0)) 59 := by rw [← HZ.out]; exact Row.new w1 (ints .u32 Z) 59 _ rfl
  have M1 := Lib.hid ((Nx.refl w1).alloc (.cells (ints .u32 Z) 59))
  have hne : Hid (w.heap.size < w1.heap.size) := Lib.hid (Nat.lt_of_lt_of_le R0.lt n1.size)
  clear n1 N0 R0 HP
  obtain ⟨hl, h1, A, c, rfl, hc1, hc2, hcell⟩ := r1
  obtain ⟨b, o, rfl, hb, hcell⟩ := hcell (by decide)
  have HC : Hid (∀ k (h : k < P.length), w1.cell? ⟨b, o + k, none⟩ = some (.int .u64 (P[k] : Int))) := Lib.hid fun k h => by
    have := hcell k (by rw [uvs_length]; exact h)
    rw [this]; simp [uvs]
  replace hb := Lib.hid hb
  clear hcell hl h1 hc1 hc2
  go_wp2_with fail
  generalize hW : w1.alloc (.cells (ints .u32 Z) 59) = W at *
  clear hW
  generalize hg6 : w1.heap.size = g6 at *
  have HG6 := Lib.hid hg6
  clear hg6
  go_loopw [3] (fun i wr => ∃ k : Nat, k ≤ 64 ∧ i = .int .i64 k ∧ Hid (Nx w wr) ∧ Hid (Nx w1 wr) ∧ Row wr w.heap.size (ints .u32 Z) 59 ∧ Row wr g6 (ints .u32 (preZ F 64 k)) 59) (fun i _ => 64 - (intOf i).toNat)
  case atStart => exact ⟨0, by omega, rfl, N1, M1, R1, R2⟩
  case round =>
    clear N1 M1 R1 R2
    obtain ⟨k, hk, rfl, HN, HM, RA, RB⟩ := hrel
    by_cases hlt : k < 64
    · have hki : (k : Int) < 64 := by omega
      have hkp : k < P.length := by rw [HPL.out]; exact hlt
      have hcell := (HM.out.cell (p := ⟨b, o + k, none⟩) (by rw [HG6.out]; exact hb.out)).trans (HC.out k hkp)
      obtain ⟨h1, h2⟩ := HG.out k hkp
      have HK := Lib.hid (fun W => kpart_any P[k] true W (by omega))
      have HX := Lib.hid (HPN.out k _ hlt h2)
      have hRS := RB.set k (.int .u32 ((partF P[k] true 40 0 % 4294967296 : Nat) : Int))
      rw [ints_set, HX.out] at hRS
      replace hlt := Lib.hid hlt
      have HRS := Lib.hid (fun W (h : Nx wr W) => by have := (RB.nx h).set k (.int .u32 ((partF P[k] true 40 0 % 4294967296 : Nat) : Int)); rw [ints_set, HX.out] at this; exact this)
      have HRF := Lib.hid (fun W (h : Nx wr W) => (RB.nx h).frozen k)
      have HRC := Lib.hid (fun W (h : Nx wr W) => (RB.nx h).cell (ints_get .u32 _ k (by rw [HPZ.out k (by have := hlt.out; omega)]; exact hlt.out)))
      clear h1 h2 hRS HX
      generalize (partF P[k] true 40 0 % 4294967296 : Nat) = r at *
      generalize P[k] = p at *
      clear hkp
      go_wp2_with fail
      refine (HK.out _).mono ?_
      rintro e w2 ⟨rfl, n2⟩
      have hc2 := HRC.out w2 n2
      have hf2 := HRF.out w2 n2
      have HR2 := Lib.hid (HRS.out w2 n2)
      have RA2 := Lib.hid ((RA.nx n2).other g6 k (.int .u32 (r : Int)) (by have := hne.out; have := HG6.out; omega))
      have HN2 := Lib.hid ((HN.out.trans n2).setAt (k := g6) (i := k) (.int .u32 (r : Int)) (by have := hne.out; have := HG6.out; omega))
      have HM2 := Lib.hid ((HM.out.trans n2).setAt (k := g6) (i := k) (.int .u32 (r : Int)) (by have := HG6.out; omega))
      clear n2
      go_wp2_with fail
      go_roundw
      case rel => exact ⟨k + 1, by have := hlt.out; omega, by go_num, HN2, HM2, RA2.out, HR2.out⟩
      case measure => have := hlt.out; simp [intOf]; omega
    · obtain rfl : k = 64 := by omega
      rw [HPA.out] at RB
      have hz1 : (Tryd.prog.info? 59).map (·.size) = some (ints .u32 F).size := by rw [ints_size, HFL.out]; exact hzs
      have ho : (ints .u32 Z).size = (ints .u32 F).size := by rw [ints_size, ints_size, HFL.out, HZL.out]
      replace ho := Lib.hid ho
      replace hz1 := Lib.hid hz1
      have hl : w.heap.size ≤ w.heap.size := Nat.le_refl _
      go_wp2_with (first | (refine wpList_load_row rfl 59 (.tmp 2) rfl g6 rfl 59 (ints .u32 F) (0, 0) _ RB Tryd.underlying59 rfl hz1.out ?_) | (refine wpList_store_row rfl 59 (.tmp 0) (.tmp 16) rfl w.heap.size (ints .u32 F) rfl rfl 59 (ints .u32 Z) RA hz1.out ho.out (ints_one _ _) ?_))
      exact bodyPost_ret (results_cell_row Tryd.results43 _ _ w.heap.size 59 (ints .u32 F) (0, 0) _ rfl (RA.setRow _) Tryd.underlying59 rfl hz1.out) rfl ⟨rfl, HN.out.setRow _ hl⟩

set_option maxRecDepth 100000 in
set_option maxHeartbeats 4000000 in
theorem rbegin2_any (w : World) : Calls Tryd.prog 15 #[] w fun e w' => e = .returned (.agg (ints .u32 beginS.list)) ∧ Nx w w' := by
  obtain ⟨hz, hzs⟩ := zero_of_info info_w8
  have HP := Lib.hid (fun w => by have := kprimes_any 8 w (by decide) (by rw [prL8_is]; rfl); rw [prL8_is] at this; exact this)
  have HFL : Hid ((beginS.list : List Int).length = 8) := Lib.hid (by first | exact kL_length | rfl)
  have HG : Hid (∀ k (h : k < (prL.take 8).length), (prL.take 8)[k] < 1000 ∧ (beginS.list : List Int)[k]? = some ((partF (prL.take 8)[k] false 40 0 % 4294967296 : Nat) : Int)) := Lib.hid fun k h => ⟨pr_small (prL.take 8) (by decide) _ (List.getElem_mem h), by rw [← begin_is, List.getElem?_map, List.getElem?_eq_getElem h]; rfl⟩
  have HPL : Hid ((prL.take 8).length = 8) := Lib.hid rfl
  have HZ : Hid (([0, 0, 0, 0, 0, 0, 0, 0] : List Int) = preZ beginS.list 8 0) := Lib.hid (by rw [preZ_zero]; first | done | rfl)
  have HZL : Hid (([0, 0, 0, 0, 0, 0, 0, 0] : List Int).length = 8) := Lib.hid (by first | rfl | exact List.length_replicate)
  have HPA : Hid (preZ beginS.list 8 8 = beginS.list) := Lib.hid (preZ_all _ _ HFL.out)
  have HPN := Lib.hid (fun k z (h : k < 8) => preZ_next beginS.list 8 k z h HFL.out)
  have HPZ := Lib.hid (fun k (h : k ≤ 8) => preZ_length beginS.list 8 k h HFL.out)
  generalize ([0, 0, 0, 0, 0, 0, 0, 0] : List Int) = Z at *
  generalize (beginS.list : List Int) = F at *
  generalize (prL.take 8 : List Nat) = P at *
  go_enter Tryd.func15, Tryd.ntmps15
  go_wp2_with fail
  have R0 := Row.new w (ints .u32 Z) 23 _ rfl
  have N0 := Lib.hid ((Nx.refl w).alloc (.cells (ints .u32 Z) 23))
  refine (HP.out _).mono ?_
  rintro e w1 ⟨v1, rfl, r1, n1⟩
  have N1 := Lib.hid ((N0.out.trans n1).alloc (.cells (ints .u32 Z) 23))
  have R1 := (R0.nx n1).alloc (.cells (ints .u32 Z) 23)
  have R2 : Row (w1.alloc (.cells (ints .u32 Z) 23)) w1.heap.size (ints .u32 (preZ F 8 0)) 23 := by rw [← HZ.out]; exact Row.new w1 (ints .u32 Z) 23 _ rfl
  have M1 := Lib.hid ((Nx.refl w1).alloc (.cells (ints .u32 Z) 23))
  have hne : Hid (w.heap.size < w1.heap.size) := Lib.hid (Nat.lt_of_lt_of_le R0.lt n1.size)
  clear n1 N0 R0 HP
  obtain ⟨hl, h1, A, c, rfl, hc1, hc2, hcell⟩ := r1
  obtain ⟨b, o, rfl, hb, hcell⟩ := hcell (by decide)
  have HC : Hid (∀ k (h : k < P.length), w1.cell? ⟨b, o + k, none⟩ = some (.int .u64 (P[k] : Int))) := Lib.hid fun k h => by
    have := hcell k (by rw [uvs_length]; exact h)
    rw [this]; simp [uvs]
  replace hb := Lib.hid hb
  clear hcell hl h1 hc1 hc2
  go_wp2_with fail
  generalize hW : w1.alloc (.cells (ints .u32 Z) 23) = W at *
  clear hW
  generalize hg6 : w1.heap.size = g6 at *
  have HG6 := Lib.hid hg6
  clear hg6
  go_loopw [3] (fun i wr => ∃ k : Nat, k ≤ 8 ∧ i = .int .i64 k ∧ Hid (Nx w wr) ∧ Hid (Nx w1 wr) ∧ Row wr w.heap.size (ints .u32 Z) 23 ∧ Row wr g6 (ints .u32 (preZ F 8 k)) 23) (fun i _ => 8 - (intOf i).toNat)
  case atStart => exact ⟨0, by omega, rfl, N1, M1, R1, R2⟩
  case round =>
    clear N1 M1 R1 R2
    obtain ⟨k, hk, rfl, HN, HM, RA, RB⟩ := hrel
    by_cases hlt : k < 8
    · have hki : (k : Int) < 8 := by omega
      have hkp : k < P.length := by rw [HPL.out]; exact hlt
      have hcell := (HM.out.cell (p := ⟨b, o + k, none⟩) (by rw [HG6.out]; exact hb.out)).trans (HC.out k hkp)
      obtain ⟨h1, h2⟩ := HG.out k hkp
      have HK := Lib.hid (fun W => kpart_any P[k] false W (by omega))
      have HX := Lib.hid (HPN.out k _ hlt h2)
      have hRS := RB.set k (.int .u32 ((partF P[k] false 40 0 % 4294967296 : Nat) : Int))
      rw [ints_set, HX.out] at hRS
      replace hlt := Lib.hid hlt
      have HRS := Lib.hid (fun W (h : Nx wr W) => by have := (RB.nx h).set k (.int .u32 ((partF P[k] false 40 0 % 4294967296 : Nat) : Int)); rw [ints_set, HX.out] at this; exact this)
      have HRF := Lib.hid (fun W (h : Nx wr W) => (RB.nx h).frozen k)
      have HRC := Lib.hid (fun W (h : Nx wr W) => (RB.nx h).cell (ints_get .u32 _ k (by rw [HPZ.out k (by have := hlt.out; omega)]; exact hlt.out)))
      clear h1 h2 hRS HX
      generalize (partF P[k] false 40 0 % 4294967296 : Nat) = r at *
      generalize P[k] = p at *
      clear hkp
      go_wp2_with fail
      refine (HK.out _).mono ?_
      rintro e w2 ⟨rfl, n2⟩
      have hc2 := HRC.out w2 n2
      have hf2 := HRF.out w2 n2
      have HR2 := Lib.hid (HRS.out w2 n2)
      have RA2 := Lib.hid ((RA.nx n2).other g6 k (.int .u32 (r : Int)) (by have := hne.out; have := HG6.out; omega))
      have HN2 := Lib.hid ((HN.out.trans n2).setAt (k := g6) (i := k) (.int .u32 (r : Int)) (by have := hne.out; have := HG6.out; omega))
      have HM2 := Lib.hid ((HM.out.trans n2).setAt (k := g6) (i := k) (.int .u32 (r : Int)) (by have := HG6.out; omega))
      clear n2
      go_wp2_with fail
      go_roundw
      case rel => exact ⟨k + 1, by have := hlt.out; omega, by go_num, HN2, HM2, RA2.out, HR2.out⟩
      case measure => have := hlt.out; simp [intOf]; omega
    · obtain rfl : k = 8 := by omega
      rw [HPA.out] at RB
      have hz1 : (Tryd.prog.info? 23).map (·.size) = some (ints .u32 F).size := by rw [ints_size, HFL.out]; exact hzs
      have ho : (ints .u32 Z).size = (ints .u32 F).size := by rw [ints_size, ints_size, HFL.out, HZL.out]
      replace ho := Lib.hid ho
      replace hz1 := Lib.hid hz1
      have hl : w.heap.size ≤ w.heap.size := Nat.le_refl _
      go_wp2_with (first | (refine wpList_load_row rfl 23 (.tmp 2) rfl g6 rfl 23 (ints .u32 F) (0, 0) _ RB Tryd.underlying23 rfl hz1.out ?_) | (refine wpList_store_row rfl 23 (.tmp 0) (.tmp 16) rfl w.heap.size (ints .u32 F) rfl rfl 23 (ints .u32 Z) RA hz1.out ho.out (ints_one _ _) ?_))
      exact bodyPost_ret (results_cell_row Tryd.results15 _ _ w.heap.size 23 (ints .u32 F) (0, 0) _ rfl (RA.setRow _) Tryd.underlying23 rfl hz1.out) rfl ⟨rfl, HN.out.setRow _ hl⟩
end Go.Proofs.YtjbeemoobmagnaaDoor
