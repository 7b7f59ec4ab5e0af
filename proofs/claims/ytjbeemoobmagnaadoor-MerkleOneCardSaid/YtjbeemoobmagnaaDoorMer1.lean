/- LAYER 9: half, neighbour, rowsBelowRoot, joined; hashes in a row. -/
import Derived.Test.YtjbeemoobmagnaaDoorMerP
import Derived.Test.YtjbeemoobmagnaaDoorGg
import Derived.Test.YtjbeemoobmagnaaDoorRegG
import Derived.Lib.MinMax
namespace Go.Proofs.YtjbeemoobmagnaaDoor
open Go Go.RowKit
set_option linter.unusedVariables false
set_option linter.unusedSimpArgs false
set_option linter.unusedVariables false
set_option linter.unusedSimpArgs false

theorem mhalf_any (n : Nat) (h : n < 4000000) (w : World) : Calls Tryd.prog 71 #[.int .i64 (n : Int)] w fun e w' => e = .returned (.int .i64 (halfN n : Int)) ∧ w' = w := by
  have hn0 : (0 : Int) ≤ (n : Int) := by omega
  have hn1 : (n : Int) < 4000000 := by omega
  have hr := Lib.hid (show (n : Int) - (n : Int) / 2 = (halfN n : Int) by unfold halfN; omega)
  go_enter Tryd.func71, Tryd.ntmps71
  go_wp2_with fail
  go_ret
  exact ⟨by rw [← hr.out]; rfl, rfl⟩
set_option maxRecDepth 20000 in
theorem mnbr_any (n m : Nat) (hm : m < 4000000) (h : n < m) (w : World) : Calls Tryd.prog 68 #[.int .i64 (n : Int), .int .i64 (m : Int)] w fun e w' => e = .returned (.int .i64 (nbr n m : Int)) ∧ w' = w := by
  obtain ⟨x, hxe⟩ : ∃ x : Nat, (if n % 2 = 1 then n - 1 else n + 1) = x := ⟨_, rfl⟩
  have hx := i64_xor1 n (by omega)
  rw [hxe] at hx
  have hm1 : (1 : Int) ≤ (m : Int) := by omega
  have hm2 : (m : Int) < 4000000 := by omega
  have hr := Lib.hid (show min (x : Int) ((m : Int) - 1) = (nbr n m : Int) by rw [← hxe]; unfold nbr; split <;> (try split) <;> omega)
  clear h hm hxe
  go_enter Tryd.func68, Tryd.ntmps68
  go_wp2_with fail
  go_ret
  exact ⟨by rw [← hr.out]; rfl, rfl⟩
set_option maxRecDepth 20000 in
theorem mbelow_any (n : Nat) (h : n < 4000000) (w : World) : Calls Tryd.prog 69 #[.int .i64 (n : Int)] w fun e w' => e = .returned (.int .i64 (belowF n : Int)) ∧ w' = w := by
  obtain ⟨F, hF⟩ : ∃ F, belowF n = F := ⟨_, rfl⟩
  rw [hF]
  replace hF := Lib.hid (show belowF n + 0 = F from hF)
  have hn1 : (n : Int) < 4000000 := by omega
  have HH := Lib.hid (fun m (hm : m ≤ n) w => mhalf_any m (by omega) w)
  clear h
  go_enter Tryd.func69, Tryd.ntmps69
  go_wp2_with fail
  go_loop [0, 3] (fun nv rv => ∃ m r : Nat, nv = .int .i64 (m : Int) ∧ rv = .int .i64 (r : Int) ∧ m ≤ n ∧ r + m ≤ n ∧ Hid (belowF m + r = F)) (fun nv _ => (intOf nv).toNat)
  case atStart => exact ⟨n, 0, rfl, rfl, Nat.le_refl _, by omega, hF⟩
  case round =>
    clear hF
    obtain ⟨m, r, rfl, rfl, hm, hr, HF⟩ := hrel
    have hr1 : (r : Int) < 4000000 := by omega
    by_cases h1 : m ≤ 1
    · have h2 : ¬ (1 : Int) < (m : Int) := by omega
      have he : r = F := by rw [← HF.out, belowF_le h1]; omega
      clear HF
      subst he
      go_wp2_with fail
      go_ret
      exact ⟨rfl, rfl⟩
    · have h2 : (1 : Int) < (m : Int) := by omega
      have hx : Hid (belowF (halfN m) + (r + 1) = F) := Lib.hid (by rw [← HF.out, belowF_gt h1]; omega)
      have hy : Hid (halfN m < m) := Lib.hid (by unfold halfN; omega)
      have hz : Hid (r + 1 + halfN m ≤ n) := Lib.hid (by unfold halfN; omega)
      have HC := Lib.hid (HH.out m hm)
      generalize halfN m = q at *
      replace hr := Lib.hid hr
      replace hm := Lib.hid hm
      go_wp2_with fail
      refine (HC.out _).mono ?_
      rintro e w1 ⟨rfl, rfl⟩
      go_wp2_with fail
      go_round
      case rel => exact ⟨q, r + 1, rfl, by go_num, by have := hy.out; have := hm.out; omega, hz.out, hx⟩
      case measure => have := hy.out; simp [intOf]; omega
/-- A row of rows. -/
def PP.cat (ls : List (List UInt8)) : PP := ⟨fun v w => CatAt v ls w, fun _ _ _ h k => CatAt.nx h k⟩
set_option maxRecDepth 100000 in
set_option maxHeartbeats 4000000 in
theorem mjoined_any (a b : List UInt8) (w : World) (ha : a.length = 32) (hb : b.length = 32) (hk : KIs w) :
    Calls Tryd.prog 70 #[.agg (hcel a), .agg (hcel b)] w fun e w' => e = .returned (.agg (hcel (join2 a b))) ∧ Nx w w' := by
  obtain ⟨hz, hzs⟩ := zero_of_info info_hash'
  have HL2 := Lib.hid (join2_length a b)
  have HT : Hid (∀ W v, Nx w W → Rd W v (a ++ b) → Calls Tryd.prog 52 #[v] W fun e w' => e = .returned (.agg (hcel (join2 a b))) ∧ Nx W w') := Lib.hid fun W v h hr => twice_any v (a ++ b) W (hk.nx h) hr (by rw [List.length_append, ha, hb]; decide)
  have HZL : Hid ((List.replicate 32 (0 : UInt8)).length = 32) := Lib.hid List.length_replicate
  have HLA := Lib.hid ha
  have HLB := Lib.hid hb
  have HCC : Hid (∀ (wr : World) (x : Value), CatAt x [a, b] wr → Calls Tryd.prog 48 #[x] wr fun e w' => ∃ v, e = .returned v ∧ Own 0 w' v (a ++ b) ∧ Nx wr w') := Lib.hid fun wr x h => by
    have := concat_at wr h (by simp) (by simp only [List.flatten_cons, List.flatten_nil, List.append_nil, List.length_append]; omega) 0 (Nat.zero_le _)
    simpa only [List.flatten_cons, List.flatten_nil, List.append_nil] using this
  have HSA := Lib.hid (fun w' => slice_arr_all (P := Tryd.prog) 30 5 32 Tryd.underlying30 Tryd.sizeOf5 w.heap.size (by omega) w')
  have HSB := Lib.hid (fun w' => slice_arr_all (P := Tryd.prog) 30 5 32 Tryd.underlying30 Tryd.sizeOf5 (w.heap.size + 1) (by omega) w')
  clear ha hb hk
  generalize join2 a b = H at *
  generalize List.replicate 32 (0 : UInt8) = ZZ at *
  have hi2 := Lib.hid (hashsz H HL2.out)
  have ho2 := Lib.hid (hashsame ZZ H HZL.out HL2.out)
  go_enter Tryd.func70, Tryd.ntmps70
  go_wp2_with fail
  have N0 : Hid (Nx w (((w.alloc (.cells (hcel a) 30)).alloc (.cells (hcel b) 30)).alloc (.cells (hcel ZZ) 30))) := Lib.hid ((((Nx.refl w).alloc _).alloc _).alloc _)
  have K0 : Row (((w.alloc (.cells (hcel a) 30)).alloc (.cells (hcel b) 30)).alloc (.cells (hcel ZZ) 30)) w.heap.size (hcel a) 30 := ((Row.new _ _ _ _ rfl).alloc _).alloc _
  have K1 : Row (((w.alloc (.cells (hcel a) 30)).alloc (.cells (hcel b) 30)).alloc (.cells (hcel ZZ) 30)) (w.heap.size + 1) (hcel b) 30 := (Row.new2 _ _ _ _).alloc _
  have K2 : Row (((w.alloc (.cells (hcel a) 30)).alloc (.cells (hcel b) 30)).alloc (.cells (hcel ZZ) 30)) (w.heap.size + 1 + 1) (hcel ZZ) 30 := Row.new3 _ _ _ _ _
  generalize ((w.alloc (.cells (hcel a) 30)).alloc (.cells (hcel b) 30)).alloc (.cells (hcel ZZ) 30) = W at *
  refine wp_region_nx 5 [[], [], [0, 1], [2], [3, 3], [4, 4, 0, 1, 2, 3, 4]] [some 5, some 6, some 7, some 8, some 9]
    [.eq (.slice (some ⟨w.heap.size, 0, none⟩) 32 32), .eq (.slice (some ⟨w.heap.size + 1, 0, none⟩) 32 32), (PP.cat [a, b]), .rd (a ++ b), .eq (.agg (hcel H))]
    (by kernel_rfl) (by kernel_rfl) (hord_of (by decide)) (by kernel_rfl) (by decide) (by decide) (htail_of (by decide)) ?_ _ (by rfl) ?_
  · intro x tm wr htm hx i hi hd K hK
    simp only [fillA, List.setIfInBounds_toArray, List.set_cons_zero, List.set_cons_succ] at htm
    subst htm
    have hcs : i = 0 ∨ i = 1 ∨ i = 2 ∨ i = 3 ∨ i = 4 := by omega
    clear hi
    rcases hcs with rfl | rfl | rfl | rfl | rfl
    · exact wpOp_of rfl rfl (wp_slice_of (some 5) rfl 30 (.tmp 2) none none none rfl _ (HSA.out wr) (hK _ _ rfl (Nx.refl _)))
    · exact wpOp_of rfl rfl (wp_slice_of (some 6) rfl 30 (.tmp 3) none none none rfl _ (HSB.out wr) (hK _ _ rfl (Nx.refl _)))
    · have e0 : x 0 = .slice (some ⟨w.heap.size, 0, none⟩) 32 32 := hd 0 (by decide)
      have e1 : x 1 = .slice (some ⟨w.heap.size + 1, 0, none⟩) 32 32 := hd 1 (by decide)
      generalize x 0 = y0 at e0 hK ⊢
      subst e0
      generalize x 1 = y1 at e1 hK ⊢
      subst e1
      have RA := (K0.nx hx).rd 32 HLA.out (by decide)
      have RB := (K1.nx hx).rd 32 HLB.out (by decide)
      exact wpOp_of rfl rfl (wp_mk_of (some 7) rfl 103 2 _ rfl (#[(0, .slice (some ⟨w.heap.size, 0, none⟩) 32 32), (1, .slice (some ⟨w.heap.size + 1, 0, none⟩) 32 32)]) (by kernel_rfl) _ _ (run_mk2 RA.sl RB.sl wr) (hK _ _ (catAt2 RA RB) ((Nx.refl _).alloc _)))
    · have r2 := hd 2 (by decide)
      refine wpOp_of rfl rfl (wp_callp_of (some 8) rfl 48 #[x 2] (by kernel_rfl) (fun v w' => Rd w' v (a ++ b)) ?_ hK)
      exact (HCC.out wr _ r2).mono fun _ _ ⟨v, h1, h2, h3⟩ => ⟨v, h1, h2.rd, h3⟩
    · have r3 := hd 3 (by decide)
      refine wpOp_of rfl rfl (wp_call_of (some 9) rfl 52 #[x 3] (by kernel_rfl) (.agg (hcel H)) ?_ (fun w' h => hK _ w' rfl h))
      exact HT.out wr _ (N0.out.trans hx) r3
  · intro x tm wr htm hx hv
    simp only [fillA, List.setIfInBounds_toArray, List.set_cons_zero, List.set_cons_succ] at htm
    subst htm
    have e4 : x 4 = .agg (hcel H) := hv 4 (by decide)
    rw [e4]
    refine wpList_store_row rfl 30 (.tmp 4) (.tmp 9) rfl (w.heap.size + 1 + 1) (hcel H) rfl rfl 30 (hcel ZZ) (K2.nx hx) hi2.out ho2.out (hcel_one _) ?_
    refine wpList_nil ?_
    have K3 := (K2.nx hx).setRow (hcel H)
    have NF := Lib.hid ((N0.out.trans hx).setRow (hcel H) (show w.heap.size ≤ w.heap.size + 1 + 1 by omega))
    clear hv N0 K0 K1 K2 hx
    go_wp2_with fail
    exact bodyPost_ret (results_cell_row Tryd.results70 _ _ (w.heap.size + 1 + 1) 30 (hcel H) (0, 0) _ rfl K3 Tryd.underlying30 rfl hi2.out) rfl ⟨rfl, NF.out⟩
end Go.Proofs.YtjbeemoobmagnaaDoor
