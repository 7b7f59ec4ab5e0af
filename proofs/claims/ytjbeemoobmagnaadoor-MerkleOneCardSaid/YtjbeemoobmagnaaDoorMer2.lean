/- LAYER 9: above. -/
import Derived.Test.YtjbeemoobmagnaaDoorMer1
import Derived.Test.YtjbeemoobmagnaaDoorHs
import Derived.Test.YtjbeemoobmagnaaDoorCutV
namespace Go.Proofs.YtjbeemoobmagnaaDoor
open Go Go.RowKit
set_option linter.unusedVariables false
set_option linter.unusedSimpArgs false
set_option linter.unusedVariables false
set_option linter.unusedSimpArgs false

/-- So many hashes of a list, and zeros. -/
def preH (F : Hs) (n k : Nat) : Hs := F.take k ++ hzs (n - k)
theorem preH_zero (F : Hs) (n : Nat) : preH F n 0 = hzs n := by simp [preH]
theorem preH_all (F : Hs) (n : Nat) (h : F.length = n) : preH F n n = F := by
  unfold preH
  rw [List.take_of_length_le (by omega)]
  simp [hzs]
theorem preH_length (F : Hs) (n k : Nat) (hk : k ≤ n) (h : F.length = n) : (preH F n k).length = n := by
  unfold preH
  rw [List.length_append, List.length_take, hzs_length]; omega
theorem preH_32 {F : Hs} (h : H32 F) (n k : Nat) : H32 (preH F n k) := (h.take k).append (hzs_32 _)
theorem preH_next (F : Hs) (n k : Nat) (hk : k < n) (h : F.length = n) (z : List UInt8) (hz : F[k]? = some z) : (preH F n k).set k z = preH F n (k + 1) := by
  obtain ⟨hb1, rfl⟩ := List.getElem?_eq_some_iff.1 hz
  unfold preH
  rw [List.take_succ_eq_append_getElem (by omega), List.set_append_right _ _ (by rw [List.length_take]; omega)]
  rw [show k - (F.take k).length = 0 by rw [List.length_take]; omega, show n - k = (n - (k + 1)) + 1 by omega, hzs_succ, List.set_cons_zero, List.append_assoc]
  rfl
theorem getD_cells {l : Hs} {w : World} {b o : Nat} (hc : ∀ j (hj : j < l.length) i u, (hcel l[j])[i]? = some u → w.cell? ⟨b, o + j * 32 + i, none⟩ = some u) (j : Nat) (hj : j < l.length) (i : Nat) (u : Value) (hu : (hcel (l.getD j []))[i]? = some u) : w.cell? ⟨b, o + j * 32 + i, none⟩ = some u := by
  refine hc j hj i u ?_
  rw [List.getD_eq_getElem?_getD, List.getElem?_eq_getElem hj] at hu
  exact hu

set_option maxRecDepth 100000 in
set_option maxHeartbeats 4000000 in
theorem mabove_any (v : Value) (l : Hs) (w : World) (hr : RdE elH w v l) (h2 : 2 ≤ l.length) (hn : l.length ≤ 1000) (hk : KIs w) :
    Calls Tryd.prog 66 #[v] w fun e w' => ∃ v', e = .returned v' ∧ OwnE elH w.heap.size w' v' (abv l) ∧ Nx w w' := by
  obtain ⟨A, c, rfl, hc1, hc2, h32, hcq⟩ := hr.h_parts
  have hcq2 := hcq (by omega)
  clear hcq
  obtain ⟨b, o, rfl, hb, hcell⟩ := hcq2
  have HGC := Lib.hid (fun j hj => getD_cells hcell j hj)
  have HB := Lib.hid hb
  have HGL := Lib.hid (fun j (hj : j < l.length) => h32.getD hj)
  have HAL := Lib.hid (abv_length l)
  have HA32 := Lib.hid (abv_32 l)
  have HAG : Hid (∀ k, k < halfN l.length → (abv l)[k]? = some (join2 (l.getD (2 * k) []) (l.getD (nbr (2 * k) l.length) []))) := Lib.hid fun k hk => by
    rw [List.getElem?_eq_getElem (by rw [abv_length]; exact hk), abv_get]
  have HK := Lib.hid hk
  have HC1 := Lib.hid hc1
  have HHF := Lib.hid (fun w => mhalf_any l.length (by omega) w)
  have HM : Hid (2 * halfN l.length ≤ l.length + 1 ∧ halfN l.length ≤ 1000) := Lib.hid (by unfold halfN; omega)
  clear hk hb hcell hc1 hc2 hr h32
  generalize hnn : l.length = n at *
  replace hnn := Lib.hid hnn
  generalize abv l = F at *
  generalize halfN n = m at *
  have hmk := run_mkh m (by have := HM.out; omega)
  have hmi : (m : Int) ≤ 1000 := by have := HM.out; omega
  have HN0 : Hid (n ≤ 1000) := Lib.hid hn
  replace h2 := Lib.hid h2
  clear hn
  go_enter Tryd.func66, Tryd.ntmps66
  go_wp2_with fail
  refine (HHF.out _).mono ?_
  rintro e w1 ⟨rfl, rfl⟩
  go_wp2_with fail
  have N0 := Lib.hid ((Nx.refl w1).alloc (.cells (hfs (hzs m)).toArray 30))
  have R0 : Row (w1.alloc (.cells (hfs (hzs m)).toArray 30)) w1.heap.size (hfs (preH F m 0)).toArray 30 := by rw [preH_zero]; exact Row.new _ _ _ _ rfl
  generalize hW : w1.alloc (.cells (hfs (hzs m)).toArray 30) = W at *
  clear hW hmk HHF
  generalize hg : w1.heap.size = g at *
  have HG := Lib.hid hg
  clear hg
  go_loopw [11, 4] (fun i vi wr => ∃ k : Nat, k ≤ m ∧ i = .int .i64 (k : Int) ∧ Hid (Nx w1 wr) ∧ Row wr g (hfs (preH F m k)).toArray 30) (fun i _ _ => m - (intOf i).toNat)
  case atStart => exact ⟨0, Nat.zero_le _, rfl, N0, R0⟩
  case round =>
    clear R0 N0
    obtain ⟨k, hk, rfl, HN, R⟩ := hrel
    by_cases hlt : k < m
    · have hlti : (k : Int) < (m : Int) := by omega
      have HM2 : Hid (IntKind.i64.wrap (2 * (k : Int)) = 2 * (k : Int)) := Lib.hid (IntWalk.i64_in _ (by omega))
      have HJ1 : Hid (2 * k < n) := Lib.hid (by have := HM.out; omega)
      have HJ2 : Hid (nbr (2 * k) n < n) := Lib.hid (nbr_lt HJ1.out)
      have HNB := Lib.hid (fun w => by have := mnbr_any (2 * k) n (by have := HN0.out; omega) HJ1.out w; rw [Int.natCast_mul] at this; exact this)
      have L1 := Lib.hid (HGL.out _ HJ1.out)
      have L2 := Lib.hid (HGL.out _ HJ2.out)
      have C1 : Hid (∀ wr', Nx wr wr' → ∀ i u, (hcel (l.getD (2 * k) []))[i]? = some u → wr'.cell? ⟨b, o + 2 * k * 32 + i, none⟩ = some u) := Lib.hid fun wr' hx i u hu => ((HN.out.trans hx).cell (p := ⟨b, o + 2 * k * 32 + i, none⟩) (by rw [HG.out]; exact HB.out)).trans (HGC.out _ HJ1.out i u hu)
      have C2 : Hid (∀ wr', Nx wr wr' → ∀ i u, (hcel (l.getD (nbr (2 * k) n) []))[i]? = some u → wr'.cell? ⟨b, o + nbr (2 * k) n * 32 + i, none⟩ = some u) := Lib.hid fun wr' hx i u hu => ((HN.out.trans hx).cell (p := ⟨b, o + nbr (2 * k) n * 32 + i, none⟩) (by rw [HG.out]; exact HB.out)).trans (HGC.out _ HJ2.out i u hu)
      have HX := Lib.hid (HAG.out k hlt)
      have LH := Lib.hid (join2_length (l.getD (2 * k) []) (l.getD (nbr (2 * k) n) []))
      have HJO : Hid (∀ W, Nx w1 W → Calls Tryd.prog 70 #[.agg (hcel (l.getD (2 * k) [])), .agg (hcel (l.getD (nbr (2 * k) n) []))] W fun e w' => e = .returned (.agg (hcel (join2 (l.getD (2 * k) []) (l.getD (nbr (2 * k) n) [])))) ∧ Nx W w') := Lib.hid fun W h => mjoined_any _ _ W L1.out L2.out (HK.out.nx h)
      generalize l.getD (2 * k) [] = h1 at *
      generalize l.getD (nbr (2 * k) n) [] = h2 at *
      generalize nbr (2 * k) n = q at *
      generalize join2 h1 h2 = H at *
      have Z1 := Lib.hid (hashsz h1 L1.out)
      have Z2 := Lib.hid (hashsz h2 L2.out)
      have Z3 := Lib.hid (hashsz H LH.out)
      have HPL := Lib.hid (preH_length F m k hk HAL.out)
      have HP32 := Lib.hid (preH_32 HA32.out m k)
      have HPN := Lib.hid (preH_next F m k hlt HAL.out H HX.out)
      replace hk := Lib.hid hk
      replace hlt := Lib.hid hlt
      go_wp2_with fail
      refine wp_region_nx 16 [[], [], [], [], [3], [2, 4], [5], [], [], [8], [], [10], [9, 11], [7, 12], [13], [6, 14, 12], [0, 1, 0, 1, 2, 3, 4, 5, 6, 7, 8, 9, 10, 11, 12, 13, 14, 15], [16, 15, 15, 0, 1, 2, 3, 4, 5, 6, 7, 8, 9, 10, 11, 12, 13, 14, 15]] [some 14, some 15, some 16, some 17, some 18, some 19, some 20, some 21, some 22, some 23, some 24, some 25, some 26, some 27, some 28, some 29]
        [.eq (.slice (some ⟨g, 0, none⟩) m m), .eq (.int .i64 (k : Int)), .eq (.slice (some ⟨b, o, none⟩) n c), .eq (.int .i64 (k : Int)), .eq (.int .i64 (2 * (k : Int))), .eq (.pointer (some ⟨b, o + 2 * k * 32, none⟩)), .eq (.agg (hcel h1)), .eq (.slice (some ⟨b, o, none⟩) n c), .eq (.int .i64 (k : Int)), .eq (.int .i64 (2 * (k : Int))), .eq (.slice (some ⟨b, o, none⟩) n c), .eq (.int .i64 (n : Int)), .eq (.int .i64 (q : Int)), .eq (.pointer (some ⟨b, o + q * 32, none⟩)), .eq (.agg (hcel h2)), .eq (.agg (hcel H))]
        (by kernel_rfl) (by kernel_rfl) (hord_of (by decide)) (by kernel_rfl) (by decide) (by decide) (htail_of (by decide)) ?_ _ (by rfl) ?_
      · intro x tm wr htm hx i hi hd K hK
        simp only [fillA, List.setIfInBounds_toArray, List.set_cons_zero, List.set_cons_succ] at htm
        subst htm
        have hcs : i = 0 ∨ i = 1 ∨ i = 2 ∨ i = 3 ∨ i = 4 ∨ i = 5 ∨ i = 6 ∨ i = 7 ∨ i = 8 ∨ i = 9 ∨ i = 10 ∨ i = 11 ∨ i = 12 ∨ i = 13 ∨ i = 14 ∨ i = 15 := by omega
        clear hi
        rcases hcs with rfl | rfl | rfl | rfl | rfl | rfl | rfl | rfl | rfl | rfl | rfl | rfl | rfl | rfl | rfl | rfl
        · exact wpOp_of rfl rfl (wp_val_of (some 14) rfl (.slice (some ⟨g, 0, none⟩) m m) (by kernel_rfl) (hK _ _ rfl (Nx.refl _)))
        · exact wpOp_of rfl rfl (wp_val_of (some 15) rfl (.int .i64 (k : Int)) (by kernel_rfl) (hK _ _ rfl (Nx.refl _)))
        · exact wpOp_of rfl rfl (wp_val_of (some 16) rfl (.slice (some ⟨b, o, none⟩) n c) (by kernel_rfl) (hK _ _ rfl (Nx.refl _)))
        · exact wpOp_of rfl rfl (wp_val_of (some 17) rfl (.int .i64 (k : Int)) (by kernel_rfl) (hK _ _ rfl (Nx.refl _)))
        · have e3 : x 3 = .int .i64 (k : Int) := hd 3 (by decide)
          generalize x 3 = y3 at e3 hK ⊢
          subst e3
          exact wpOp_of rfl rfl (wp_val_of (some 18) rfl (.int .i64 (IntKind.i64.wrap (2 * (k : Int)))) (by kernel_rfl) (hK _ _ (show _ = _ by rw [HM2.out]) (Nx.refl _)))
        · have e2 : x 2 = .slice (some ⟨b, o, none⟩) n c := hd 2 (by decide)
          have e4 : x 4 = .int .i64 (2 * (k : Int)) := hd 4 (by decide)
          generalize x 2 = y2 at e2 hK ⊢
          subst e2
          generalize x 4 = y4 at e4 hK ⊢
          subst e4
          exact wpOp_of rfl rfl (wp_ix_of (some 19) rfl 46 30 (.tmp 16) (.tmp 18) rfl Tryd.underlying46 32 Tryd.sizeOf30 b o n c (2 * k) (2 * (k : Int)) rfl rfl (by omega) HJ1.out (hK _ _ rfl (Nx.refl _)))
        · have e5 : x 5 = .pointer (some ⟨b, o + 2 * k * 32, none⟩) := hd 5 (by decide)
          generalize x 5 = y5 at e5 hK ⊢
          subst e5
          exact wpOp_of rfl rfl (wp_load_at (some 20) rfl 30 (.tmp 19) rfl b (o + 2 * k * 32) rfl (hcel h1) _ (C1.out wr hx) Tryd.underlying30 rfl Z1.out (hK _ _ rfl (Nx.refl _)))
        · exact wpOp_of rfl rfl (wp_val_of (some 21) rfl (.slice (some ⟨b, o, none⟩) n c) (by kernel_rfl) (hK _ _ rfl (Nx.refl _)))
        · exact wpOp_of rfl rfl (wp_val_of (some 22) rfl (.int .i64 (k : Int)) (by kernel_rfl) (hK _ _ rfl (Nx.refl _)))
        · have e8 : x 8 = .int .i64 (k : Int) := hd 8 (by decide)
          generalize x 8 = y8 at e8 hK ⊢
          subst e8
          exact wpOp_of rfl rfl (wp_val_of (some 23) rfl (.int .i64 (IntKind.i64.wrap (2 * (k : Int)))) (by kernel_rfl) (hK _ _ (show _ = _ by rw [HM2.out]) (Nx.refl _)))
        · exact wpOp_of rfl rfl (wp_val_of (some 24) rfl (.slice (some ⟨b, o, none⟩) n c) (by kernel_rfl) (hK _ _ rfl (Nx.refl _)))
        · have e10 : x 10 = .slice (some ⟨b, o, none⟩) n c := hd 10 (by decide)
          generalize x 10 = y10 at e10 hK ⊢
          subst e10
          exact wpOp_of rfl rfl (wp_val_of (some 25) rfl (.int .i64 (n : Int)) (by kernel_rfl) (hK _ _ rfl (Nx.refl _)))
        · have e9 : x 9 = .int .i64 (2 * (k : Int)) := hd 9 (by decide)
          have e11 : x 11 = .int .i64 (n : Int) := hd 11 (by decide)
          generalize x 9 = y9 at e9 hK ⊢
          subst e9
          generalize x 11 = y11 at e11 hK ⊢
          subst e11
          refine wpOp_of rfl rfl (wp_call_of (some 26) rfl 68 #[(.int .i64 (2 * (k : Int))), (.int .i64 (n : Int))] (by kernel_rfl) (.int .i64 (q : Int)) ?_ (fun w' h => hK _ w' rfl h))
          exact (HNB.out wr).mono fun _ _ ⟨h1, h2⟩ => ⟨h1, by rw [h2]; exact Nx.refl _⟩
        · have e7 : x 7 = .slice (some ⟨b, o, none⟩) n c := hd 7 (by decide)
          have e12 : x 12 = .int .i64 (q : Int) := hd 12 (by decide)
          generalize x 7 = y7 at e7 hK ⊢
          subst e7
          generalize x 12 = y12 at e12 hK ⊢
          subst e12
          exact wpOp_of rfl rfl (wp_ix_of (some 27) rfl 46 30 (.tmp 21) (.tmp 26) rfl Tryd.underlying46 32 Tryd.sizeOf30 b o n c q (q : Int) rfl rfl rfl HJ2.out (hK _ _ rfl (Nx.refl _)))
        · have e13 : x 13 = .pointer (some ⟨b, o + q * 32, none⟩) := hd 13 (by decide)
          generalize x 13 = y13 at e13 hK ⊢
          subst e13
          exact wpOp_of rfl rfl (wp_load_at (some 28) rfl 30 (.tmp 27) rfl b (o + q * 32) rfl (hcel h2) _ (C2.out wr hx) Tryd.underlying30 rfl Z2.out (hK _ _ rfl (Nx.refl _)))
        · have e6 : x 6 = .agg (hcel h1) := hd 6 (by decide)
          have e14 : x 14 = .agg (hcel h2) := hd 14 (by decide)
          have e12 : x 12 = .int .i64 (q : Int) := hd 12 (by decide)
          generalize x 6 = y6 at e6 hK ⊢
          subst e6
          generalize x 14 = y14 at e14 hK ⊢
          subst e14
          generalize x 12 = y12 at e12 hK ⊢
          subst e12
          refine wpOp_of rfl rfl (wp_call_of (some 29) rfl 70 #[(.agg (hcel h1)), (.agg (hcel h2))] (by kernel_rfl) (.agg (hcel H)) ?_ (fun w' h => hK _ w' rfl h))
          exact HJO.out wr (HN.out.trans hx)
      · intro x tm wr htm hx hv
        simp only [fillA, List.setIfInBounds_toArray, List.set_cons_zero, List.set_cons_succ] at htm
        subst htm
        have e0 : x 0 = .slice (some ⟨g, 0, none⟩) m m := hv 0 (by decide)
        rw [e0]
        have e1 : x 1 = .int .i64 (k : Int) := hv 1 (by decide)
        rw [e1]
        have e15 : x 15 = .agg (hcel H) := hv 15 (by decide)
        rw [e15]
        refine wpList_plain rfl fun K hK => wp_ix_of (some 30) rfl 46 30 (.tmp 14) (.tmp 15) rfl Tryd.underlying46 32 Tryd.sizeOf30 g 0 m m k (k : Int) rfl rfl rfl hlt.out (hK _ _ ?_)
        have RR := (R.nx hx).setRow (hfs (preH F m (k + 1))).toArray
        have NN := Lib.hid ((HN.out.trans hx).setRow (hfs (preH F m (k + 1))).toArray (show w1.heap.size ≤ g by rw [HG.out]; exact Nat.le_refl _))
        have EC := Lib.hid (hfs_hcel HP32.out k (by rw [HPL.out]; exact hlt.out) H LH.out)
        refine wpList_store_part rfl 30 (.tmp 30) (.tmp 29) rfl g (0 + k * 32) (hcel H) rfl rfl 30 (hfs (preH F m k)).toArray (R.nx hx) Z3.out (by rw [hcel_size, LH.out, List.size_toArray, hfs_length HP32.out, HPL.out]; have := hlt.out; omega) (hcel_one _) ?_
        rw [Nat.zero_add (k * 32), EC.out, HPN.out]
        refine wpList_nil ?_
        clear hv C1 C2 R
        go_wp2_with fail
        go_roundw
        case rel => exact ⟨k + 1, by have := hlt.out; omega, by go_num, NN, RR⟩
        case measure => have := hlt.out; simp [intOf]; omega
    · obtain rfl : k = m := by omega
      rw [preH_all F k HAL.out] at R
      go_wp2_with fail
      go_ret
      exact ⟨_, rfl, OwnE.of_row R HA32.out (by rw [HG.out]; exact Nat.le_refl _) HAL.out.symm (by rw [HAL.out]; have := HM.out; simp only [maxLen]; omega), HN.out⟩
end Go.Proofs.YtjbeemoobmagnaaDoor
