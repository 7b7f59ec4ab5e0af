/- CONTRACTS OF LAYER 6: GetPoint. -/
import Derived.Test.YtniaiglfgknfiaaCoin1
import Derived.Laws.CopyOwn
import Derived.Deep.WholeRow
namespace Go.Proofs.Ytniaiglfgknfiaa
open Go Go.RowKit
set_option linter.unusedVariables false
set_option linter.unusedSimpArgs false

def Z32 : List UInt8 := List.replicate 32 0
theorem Z32_length : Z32.length = 32 := List.length_replicate
theorem info_point : (Try.prog.info? 27).map (fun i => (i.zero, i.size)) = some (some (.agg (pcel Z32 0 0)), 34) := by kernel_rfl
theorem pointsz (tx : List UInt8) (n h : Nat) (ht : tx.length = 32) : (Try.prog.info? 27).map (·.size) = some (pcel tx n h).size := by
  rw [pcel_size tx n h ht]; kernel_rfl
theorem pointsame (tx ty : List UInt8) (n h m k : Nat) (ht : tx.length = 32) (hy : ty.length = 32) : (pcel tx n h).size = (pcel ty m k).size := by rw [pcel_size _ _ _ ht, pcel_size _ _ _ hy]
theorem pcel_one (tx : List UInt8) (n h : Nat) : (pcel tx n h).all (·.oneCell') = true := by
  rw [Array.all_eq_true']
  intro x hx
  simp only [pcel, pcl, List.mem_toArray, List.mem_append, List.mem_cons, List.not_mem_nil, or_false] at hx
  rcases hx with h | rfl | rfl
  · exact bvs_one tx x h
  · rfl
  · rfl
theorem results_cell_row3 {P : Program} {fn : Func} {p u v : Tmp} {ty : TypeId} (h : fn.results = #[.cell p ty, .tmp u, .tmp v]) (tmps : Array Value) (w : World) (g : Nat) (t : TypeId) (cs : Array Value) (fr : Nat × Nat) (d : TypeDesc)
    (hp : tmps.getD p undef = .pointer (some ⟨g, 0, none⟩)) (hg : w.heap[g]? = some (.cells cs t fr))
    (hu : P.underlying ty = some d) (hd : (match d with | .struct _ | .array _ _ => true | _ => false) = true) (hi : (P.info? ty).map (·.size) = some cs.size) :
    (results fn tmps).run P w = .ok (.tuple #[.agg cs, tmps.getD u undef, tmps.getD v undef]) w := by
  have hp' : tmps[p]?.getD undef = .pointer (some ⟨g, 0, none⟩) := by simpa using hp
  simp [results, h, hp', asAddr, run_loadVar_row w g t ty cs fr d hg hu hd hi, Sem.run_bind, Result.andThen]

def gpE (l : List UInt8) (at_ : Int) : Int := cutE l.length at_ 38
def gpX (l : List UInt8) (at_ : Int) : List UInt8 := if gpE l at_ = 0 then (cutL l at_ 38).take 32 else Z32
def gpN (l : List UInt8) (at_ : Int) : Nat := if gpE l at_ = 0 then getN (cutL l at_ 38) 32 2 else 0
def gpH (l : List UInt8) (at_ : Int) : Nat := if gpE l at_ = 0 then getN (cutL l at_ 38) 34 4 else 0
def gpP (l : List UInt8) (at_ : Int) : Int := if gpE l at_ = 0 then at_ + 38 else 0
theorem cut38 {l : List UInt8} {at_ : Int} (h : gpE l at_ = 0) : (cutL l at_ 38).length = 38 ∧ 0 ≤ at_ ∧ at_ + 38 ≤ l.length := by
  unfold gpE at h
  rcases cutE_cases l.length at_ 38 with ⟨_, h2⟩ | ⟨_, h2⟩ | ⟨i, m, rfl, hm, h1, h2⟩
  · rw [h2] at h; cases h
  · rw [h2] at h; cases h
  · obtain rfl : m = 38 := by omega
    unfold cutL
    rw [if_pos h, List.length_take, List.length_drop]
    omega
theorem get38 (L : List UInt8) (h : L.length = 38) (i m : Nat) (hm : m = 1 ∨ m = 2 ∨ m = 4 ∨ m = 8) (hi : i + m ≤ 38) : getE L.length (i : Int) (m : Int) = 0 ∧ getN L (i : Int) (m : Int) = num ((L.drop i).take m) ∧ num ((L.drop i).take m) < 256 ^ m := by
  rcases get_cases L (i : Int) (m : Int) with ⟨h1, h2, h3⟩ | ⟨h1, h4, h2, h3⟩ | ⟨h1, h4, h2, h3⟩ | ⟨i', m', hi', hm', hmm, h1, h4, h2, h3⟩
  · exfalso
    have := isSz_no h1
    omega
  · exfalso; omega
  · exfalso; omega
  · obtain rfl : i = i' := by omega
    obtain rfl : m = m' := by omega
    refine ⟨h2, h3, ?_⟩
    have := num_lt ((L.drop i).take m)
    have hl : ((L.drop i).take m).length = m := by rw [List.length_take, List.length_drop]; omega
    rwa [hl] at this
theorem gpX_length (l : List UInt8) (at_ : Int) : (gpX l at_).length = 32 := by
  unfold gpX
  split
  · rename_i h; rw [List.length_take, (cut38 h).1]; rfl
  · exact Z32_length

set_option maxRecDepth 100000 in
set_option maxHeartbeats 2000000 in
theorem getPoint_any (v : Value) (l : List UInt8) (at_ : Int) (w : World) (h : Rd w v l) (hr : l.length ≤ 140737488355328) :
    Calls Try.prog 17 #[v, .int .i64 at_] w fun e w' => e = .returned (.tuple #[.agg (pcel (gpX l at_) (gpN l at_) (gpH l at_)), .int .i64 (gpP l at_), .int .i64 (gpE l at_)]) ∧ Nx w w' := by
  have HP := Lib.hid (fun w h => part_any v l at_ 38 w h hr)
  have HR := Lib.hid h
  obtain ⟨A, c, rfl, -⟩ := h
  obtain ⟨hz, hzs⟩ := zero_of_info info_point
  have HZL := Lib.hid Z32_length
  by_cases hE : gpE l at_ = 0
  · obtain ⟨q1, q2, q3⟩ := cut38 hE
    obtain ⟨g1, g2, g3⟩ := get38 _ q1 32 2 (by decide) (by decide)
    obtain ⟨k1, k2, k3⟩ := get38 _ q1 34 4 (by decide) (by decide)
    have HG1 : Hid (∀ v w, Rd w v (cutL l at_ 38) → Calls Try.prog 41 #[v, .int .i64 32, .int .i64 2] w fun e w' => e = .returned (.tuple #[.int .u64 (gpN l at_ : Int), .int .i64 0]) ∧ w = w') := Lib.hid fun v w h => by
      have := get_any v _ 32 2 w h
      rw [show getE (cutL l at_ 38).length 32 2 = 0 from g1] at this
      unfold gpN
      rw [if_pos hE]
      exact this
    have HG2 : Hid (∀ v w, Rd w v (cutL l at_ 38) → Calls Try.prog 41 #[v, .int .i64 34, .int .i64 4] w fun e w' => e = .returned (.tuple #[.int .u64 (gpH l at_ : Int), .int .i64 0]) ∧ w = w') := Lib.hid fun v w h => by
      have := get_any v _ 34 4 w h
      rw [show getE (cutL l at_ 38).length 34 4 = 0 from k1] at this
      unfold gpH
      rw [if_pos hE]
      exact this
    have hn : (gpN l at_ : Int) ≤ 65535 := by unfold gpN; rw [if_pos hE, show getN (cutL l at_ 38) 32 2 = _ from g2]; have : (256 : Nat) ^ 2 = 65536 := by decide
                                              omega
    have hh : (gpH l at_ : Int) ≤ 4294967295 := by unfold gpH; rw [if_pos hE, show getN (cutL l at_ 38) 34 4 = _ from k2]; have : (256 : Nat) ^ 4 = 4294967296 := by decide
                                                   omega
    have HX : Hid (gpX l at_ = (cutL l at_ 38).take 32) := Lib.hid (by unfold gpX; rw [if_pos hE])
    have HPP : Hid (gpP l at_ = at_ + 38) := Lib.hid (by unfold gpP; rw [if_pos hE])
    have HXL := Lib.hid (gpX_length l at_)
    have HEE := Lib.hid hE
    have hEc : cutE l.length at_ 38 = 0 := hE
    rw [hEc] at HP
    have HQ := Lib.hid q1
    have q4 : at_ + 38 ≤ 9223372036854775807 := by omega
    clear hE hEc q1 q3 g1 g2 g3 k1 k2 k3
    rw [HEE.out, HPP.out]
    generalize cutL l at_ 38 = L at *
    generalize gpX l at_ = X at *
    generalize gpN l at_ = N at *
    generalize gpH l at_ = H at *
    go_enter Try.func17, Try.ntmps17
    go_wp2_with fail
    refine (HP.out _ (HR.out.alloc _)).mono ?_
    rintro e w1 ⟨v1, rfl, o1, n1⟩
    have R4 := (Row.new w (pcel Z32 0 0) 27 _ rfl).nx n1
    have N1 := Lib.hid (((Nx.refl w).alloc (.cells (pcel Z32 0 0) 27)).trans n1)
    have O1 := Lib.hid o1.rd
    obtain ⟨A1, c1, rfl, -⟩ := o1.rd
    clear o1 n1
    go_wp2_with fail
    refine (HG1.out _ _ O1.out).mono ?_
    rintro e w2 ⟨rfl, rfl⟩
    go_wp2_with fail
    refine (HG2.out _ _ O1.out).mono ?_
    rintro e w2 ⟨rfl, rfl⟩
    have HU8 : (Try.prog.info? 5).map (·.size) = some 1 := by kernel_rfl
    have ip := Lib.hid (pointsz Z32 N H HZL.out)
    have ix := Lib.hid (pointsz X N H HXL.out)
    have jp := Lib.hid (pointsame Z32 Z32 0 0 N H HZL.out HZL.out)
    have jx := Lib.hid (pointsame Z32 X 0 0 N H HZL.out HXL.out)
    have RP := Row.new w1 (pcel Z32 0 0) 27 _ rfl
    have RP2 := RP.setRow (pcel Z32 N H)
    have hsl := fun w' => slice_arr_all (P := Try.prog) 22 5 32 Try.underlying22 Try.sizeOf5 w1.heap.size (by omega) w'
    have hsl2 := fun w' => slice_arr_all (P := Try.prog) 23 5 32 Try.underlying23 Try.sizeOf5 w1.heap.size (by omega) w'
    have RL := O1.out
    obtain ⟨A1', c1', hA, -, -, ha1⟩ := RL
    obtain ⟨rfl, rfl⟩ : A1 = A1' ∧ c1 = c1' := by injection hA with h1 h2 h3; exact ⟨h1, h3⟩
    obtain ⟨b1, o1, rfl, hb1, hc1⟩ := ha1 (by rw [HQ.out]; decide)
    have NW : Hid (Nx w1 ((w1.alloc (.cells (pcel Z32 0 0) 27)).setRow w1.heap.size (pcel Z32 N H))) := Lib.hid (((Nx.refl w1).alloc _).setRow _ (Nat.le_refl _))
    have HN : Hid ((bvs X).length = Nat.min L.length 32) := Lib.hid (by rw [bvs_length, HXL.out, HQ.out]; rfl)
    have HF : Hid (0 + (bvs X).length ≤ (pcel Z32 N H).size) := Lib.hid (by rw [bvs_length, HXL.out, pcel_size _ _ _ HZL.out]; decide)
    have HS : Hid (∀ j v, (bvs X)[j]? = some v → ((w1.alloc (.cells (pcel Z32 0 0) 27)).setRow w1.heap.size (pcel Z32 N H)).cell? ((⟨b1, o1, none⟩ : Addr).add j) = some v) := Lib.hid fun j v hv => by
      obtain ⟨hj, rfl⟩ := bvs_get hv
      rw [addr_add, NW.out.cell (p := ⟨b1, o1 + j, none⟩) hb1]
      have hjL : j < L.length := by have := HXL.out; have := HQ.out; omega
      rw [hc1 j hjL]
      congr 2
      simp only [HX.out, List.getElem_take]
    have HEQ : Hid (((pcel Z32 N H).toList.take 0 ++ (bvs X ++ (pcel Z32 N H).toList.drop (0 + (bvs X).length))).toArray = pcel X N H) := Lib.hid (by
      rw [bvs_length, HXL.out]
      simp [pcel, pcl, List.drop_append, bvs_length, HZL.out])
    have R42 := (R4.alloc (.cells (pcel Z32 0 0) 27)).setRow_other (k := w1.heap.size) (pcel Z32 N H) (Nat.ne_of_lt R4.lt)
    clear hc1 hA ha1
    have RP3 := RP2.setRow (pcel X N H)
    have R43 := R42.setRow_other (k := w1.heap.size) (pcel X N H) (Nat.ne_of_lt R4.lt)
    have NW3 := Lib.hid ((N1.out.trans NW.out).setRow (pcel X N H) N1.out.size)
    have hl : w.heap.size ≤ w.heap.size := Nat.le_refl _
    go_wp2_with (first | (refine wpList_val (some 38) rfl rfl (.agg (pcel Z32 N H)) ?_ ?_; (focus kernel_rfl)) | (refine wpList_store_row rfl 27 (.tmp 13) (.tmp 38) rfl w1.heap.size (pcel Z32 N H) rfl rfl 27 (pcel Z32 0 0) RP ip.out jp.out (pcel_one _ _ _) ?_) | (refine wpList_copy_own rfl (.tmp 40) (.tmp 41) _ _ rfl 5 Try.underlying29 HU8 w1.heap.size 0 32 32 ⟨b1, o1, none⟩ L.length c1 rfl rfl (pcel Z32 N H) 27 RP2 (bvs X) HN.out HS.out HF.out (bvs_one _) ?_; rw [HEQ.out]) | (refine wpList_load_row rfl 27 (.tmp 13) rfl w1.heap.size rfl 27 (pcel X N H) (0, 0) _ RP3 Try.underlying27 rfl ix.out ?_) | (refine wpList_store_row rfl 27 (.tmp 4) (.tmp 43) rfl w.heap.size (pcel X N H) rfl rfl 27 (pcel Z32 0 0) R43 ix.out jx.out (pcel_one _ _ _) ?_))
    exact bodyPost_ret (results_cell_row3 Try.results17 _ _ w.heap.size 27 (pcel X N H) (0, 0) _ rfl (R43.setRow _) Try.underlying27 rfl ix.out) rfl ⟨rfl, NW3.out.setRow _ hl⟩
  · have HE : Hid (gpE l at_ = cutE l.length at_ 38) := Lib.hid rfl
    have h1 : gpX l at_ = Z32 := by unfold gpX; rw [if_neg hE]
    have h2 : gpN l at_ = 0 := by unfold gpN; rw [if_neg hE]
    have h3 : gpH l at_ = 0 := by unfold gpH; rw [if_neg hE]
    have h4 : gpP l at_ = 0 := by unfold gpP; rw [if_neg hE]
    rw [h1, h2, h3, h4]
    rw [HE.out] at hE ⊢
    generalize cutE l.length at_ 38 = E at *
    have dE : (E != 0) = true := by simp [hE]
    clear h1 h2 h3 h4 hE HE
    have ip := Lib.hid (pointsz Z32 0 0 HZL.out)
    generalize cutL l at_ 38 = L at *
    go_enter Try.func17, Try.ntmps17
    go_wp2_with fail
    refine (HP.out _ (HR.out.alloc _)).mono ?_
    rintro e w1 ⟨v1, rfl, o1, n1⟩
    have R4 := (Row.new w (pcel Z32 0 0) 27 _ rfl).nx n1
    have N1 := Lib.hid (((Nx.refl w).alloc (.cells (pcel Z32 0 0) 27)).trans n1)
    clear o1 n1
    have hl : w.heap.size ≤ w.heap.size := Nat.le_refl _
    go_wp2_with (first | (refine wpList_val (some 22) rfl rfl (.agg (pcel Z32 0 0)) ?_ ?_; (focus kernel_rfl)) | (refine wpList_store_row rfl 27 (.tmp 4) (.tmp 22) rfl w.heap.size (pcel Z32 0 0) rfl rfl 27 (pcel Z32 0 0) R4 ip.out rfl (pcel_one _ _ _) ?_))
    exact bodyPost_ret (results_cell_row3 Try.results17 _ _ w.heap.size 27 (pcel Z32 0 0) (0, 0) _ rfl (R4.setRow _) Try.underlying27 rfl ip.out) rfl ⟨rfl, N1.out.setRow _ hl⟩
end Go.Proofs.Ytniaiglfgknfiaa
