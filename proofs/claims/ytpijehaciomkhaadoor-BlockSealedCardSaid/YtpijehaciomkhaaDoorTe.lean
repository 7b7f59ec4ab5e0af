/- TEXTS OF OUR OWN, IN ONE FILE. -/
import Derived.Test.YtpijehaciomkhaaDoorTd
import Derived.Test.YtpijehaciomkhaaDoorTb
import Derived.Laws.CopyOwn
import Derived.Deep.WholeRow
section
namespace Go.Proofs.YtpijehaciomkhaaDoor
open Go Go.RowKit
set_option linter.unusedVariables false
set_option linter.unusedSimpArgs false

/-- The cells of a point. -/
def pcl (tx : List UInt8) (n h : Nat) : List Value := bvs tx ++ [.int .u16 (n : Int), .int .u32 (h : Int)]
def pcel (tx : List UInt8) (n h : Nat) : Array Value := (pcl tx n h).toArray
/-- The cells of a coin. -/
def ccel (tx : List UInt8) (n h v : Nat) (b : Bool) (lk : Value) : Array Value := (pcl tx n h ++ [.int .u64 (v : Int), .bool b, lk]).toArray
theorem pcel_size (tx : List UInt8) (n h : Nat) (ht : tx.length = 32) : (pcel tx n h).size = 34 := by simp [pcel, pcl, bvs, ht]
theorem ccel_size (tx : List UInt8) (n h v : Nat) (b : Bool) (lk : Value) (ht : tx.length = 32) : (ccel tx n h v b lk).size = 37 := by simp [ccel, pcl, bvs, ht]
theorem pcel_tx (tx : List UInt8) (n h : Nat) (j : Nat) (hj : j < tx.length) : (pcel tx n h)[j]? = some (bv tx[j]) := by
  simp [pcel, pcl, bvs, hj, List.getElem?_append_left]
theorem pcel_n (tx : List UInt8) (n h : Nat) (ht : tx.length = 32) : (pcel tx n h)[32]? = some (.int .u16 (n : Int)) := by
  simp [pcel, pcl, bvs, ht, List.getElem?_append_right]
theorem pcel_h (tx : List UInt8) (n h : Nat) (ht : tx.length = 32) : (pcel tx n h)[33]? = some (.int .u32 (h : Int)) := by
  simp [pcel, pcl, bvs, ht, List.getElem?_append_right]
theorem info_u8p : (Tryd.prog.info? 5).map (fun i => (i.zero, i.size, i.bytes)) = some (some (.int .u8 0), 1, 1) := by kernel_rfl

theorem cnumb_any (n : Nat) (s : Int) (w : World) : Calls Tryd.prog 37 #[.int .u64 (n : Int), .int .i64 s] w fun e w' => ∃ v', e = .returned v' ∧ Own w.heap.size w' v' (putL n s) ∧ Nx w w' := by
  have H := Lib.hid (put_any n s w)
  generalize putL n s = l at *
  generalize putE n s = E at *
  go_enter Tryd.func37, Tryd.ntmps37
  go_wp2_with fail
  refine H.out.mono ?_
  rintro e w1 ⟨v, rfl, o1, n1⟩
  have O1 := Lib.hid o1
  have N1 := Lib.hid n1
  clear o1 n1
  go_wp2_with fail
  go_ret
  exact ⟨_, rfl, O1.out, N1.out⟩
/-- What getValue answers. -/
def gvT (l : List UInt8) (at_ : Int) : Nat × Int × Int := if getE l.length at_ 8 ≠ 0 then (0, 0, getE l.length at_ 8) else if 1125899906842624 < getN l at_ 8 then (0, 0, 5) else (getN l at_ 8, at_ + 8, 0)
def gbT (l : List UInt8) (at_ : Int) : Bool × Int × Int := if getE l.length at_ 1 ≠ 0 then (false, 0, getE l.length at_ 1) else if 1 < getN l at_ 1 then (false, 0, 5) else (getN l at_ 1 == 1, at_ + 1, 0)
theorem getE_ok {l : List UInt8} {at_ s : Int} (h : getE l.length at_ s = 0) : 0 ≤ at_ ∧ at_ + s ≤ l.length ∧ 0 ≤ s := by
  rcases get_cases l at_ s with ⟨h1, h2, h3⟩ | ⟨h1, h4, h2, h3⟩ | ⟨h1, h4, h2, h3⟩ | ⟨i, m, rfl, rfl, hm, h1, h4, h2, h3⟩
  · rw [h2] at h; cases h
  · rw [h2] at h; cases h
  · rw [h2] at h; cases h
  · omega
set_option maxHeartbeats 1000000 in
theorem getValue_any (v : Value) (l : List UInt8) (at_ : Int) (w : World) (h : Rd w v l) (hr : l.length ≤ 140737488355328) :
    Calls Tryd.prog 66 #[v, .int .i64 at_] w fun e w' => e = .returned (.tuple #[.int .u64 ((gvT l at_).1 : Int), .int .i64 (gvT l at_).2.1, .int .i64 (gvT l at_).2.2]) ∧ w = w' := by
  have HG := Lib.hid (get_any v l at_ 8 w h)
  obtain ⟨A, c, rfl, -⟩ := h
  unfold gvT
  have HOK := Lib.hid (fun h => getE_ok (l := l) (at_ := at_) (s := 8) h)
  generalize getE l.length at_ 8 = E at *
  generalize getN l at_ 8 = N at *
  by_cases hE : E = 0
  · obtain ⟨p1, p2, -⟩ := HOK.out hE
    subst hE
    rw [if_neg (by simp)]
    have p3 : at_ + 8 ≤ 9223372036854775807 := by omega
    by_cases hN : 1125899906842624 < N
    · rw [if_pos hN]
      have d1 : decide ((1125899906842624 : Int) < (N : Int)) = true := decide_eq_true (by omega)
      have d2 : decide (1125899906842624 < N) = true := decide_eq_true hN
      clear hN
      go_enter Tryd.func66, Tryd.ntmps66
      go_wp2_with fail
      refine HG.out.mono ?_
      rintro e w1 ⟨rfl, rfl⟩
      go_wp2_with fail
      go_ret3
      exact ⟨rfl, rfl⟩
    · rw [if_neg hN]
      have d1 : decide ((1125899906842624 : Int) < (N : Int)) = false := decide_eq_false (by omega)
      have d2 : decide (1125899906842624 < N) = false := decide_eq_false hN
      clear hN
      go_enter Tryd.func66, Tryd.ntmps66
      go_wp2_with fail
      refine HG.out.mono ?_
      rintro e w1 ⟨rfl, rfl⟩
      go_wp2_with fail
      go_ret3
      exact ⟨rfl, rfl⟩
  · rw [if_pos hE]
    have dE : (E != 0) = true := by simp [hE]
    clear hE
    go_enter Tryd.func66, Tryd.ntmps66
    go_wp2_with fail
    refine HG.out.mono ?_
    rintro e w1 ⟨rfl, rfl⟩
    go_wp2_with fail
    go_ret3
    exact ⟨rfl, rfl⟩
end Go.Proofs.YtpijehaciomkhaaDoor
end

section
namespace Go.Proofs.YtpijehaciomkhaaDoor
open Go Go.RowKit
set_option linter.unusedVariables false
set_option linter.unusedSimpArgs false

def Z32 : List UInt8 := List.replicate 32 0
theorem Z32_length : Z32.length = 32 := List.length_replicate
theorem info_point : (Tryd.prog.info? 42).map (fun i => (i.zero, i.size)) = some (some (.agg (pcel Z32 0 0)), 34) := by kernel_rfl
theorem pointsz (tx : List UInt8) (n h : Nat) (ht : tx.length = 32) : (Tryd.prog.info? 42).map (·.size) = some (pcel tx n h).size := by
  rw [pcel_size tx n h ht]; kernel_rfl
theorem pointsame (tx ty : List UInt8) (n h m k : Nat) (ht : tx.length = 32) (hy : ty.length = 32) : (pcel tx n h).size = (pcel ty m k).size := by rw [pcel_size _ _ _ ht, pcel_size _ _ _ hy]
theorem pcel_one (tx : List UInt8) (n h : Nat) : (pcel tx n h).all (·.oneCell') = true := by
  rw [Array.all_eq_true']
  intro x hx
  simp only [pcel, pcl, List.mem_toArray, List.mem_append, List.mem_cons, List.not_mem_nil, or_false] at hx
  rcases hx with h | rfl | rfl
  · exact bvs_one tx x h
  · rfl
  · rfl
theorem results_cell_row3 {P : Program} {fn : Func} {p u v : Tmp} {ty : TypeId} (h : fn.results = #[.cell p ty, .tmp u, .tmp v]) (tmps : Array Value) (w : World) (g : Nat) (t : TypeId) (cs : Array Value) (fr : Nat × Nat) (d : TypeDesc)
    (hp : tmps.getD p undef = .pointer (some ⟨g, 0, none⟩)) (hg : w.heap[g]? = some (.cells cs t fr))
    (hu : P.underlying ty = some d) (hd : (match d with | .struct _ | .array _ _ => true | _ => false) = true) (hi : (P.info? ty).map (·.size) = some cs.size) :
    (results fn tmps).run P w = .ok (.tuple #[.agg cs, tmps.getD u undef, tmps.getD v undef]) w := by
  have hp' : tmps[p]?.getD undef = .pointer (some ⟨g, 0, none⟩) := by simpa using hp
  simp [results, h, hp', asAddr, run_loadVar_row w g t ty cs fr d hg hu hd hi, Sem.run_bind, Result.andThen]

def gpE (l : List UInt8) (at_ : Int) : Int := cutE l.length at_ 38
def gpX (l : List UInt8) (at_ : Int) : List UInt8 := if gpE l at_ = 0 then (cutL l at_ 38).take 32 else Z32
def gpN (l : List UInt8) (at_ : Int) : Nat := if gpE l at_ = 0 then getN (cutL l at_ 38) 32 2 else 0
def gpH (l : List UInt8) (at_ : Int) : Nat := if gpE l at_ = 0 then getN (cutL l at_ 38) 34 4 else 0
def gpP (l : List UInt8) (at_ : Int) : Int := if gpE l at_ = 0 then at_ + 38 else 0
theorem cut38 {l : List UInt8} {at_ : Int} (h : gpE l at_ = 0) : (cutL l at_ 38).length = 38 ∧ 0 ≤ at_ ∧ at_ + 38 ≤ l.length := by
  unfold gpE at h
  rcases cutE_cases l.length at_ 38 with ⟨_, h2⟩ | ⟨_, h2⟩ | ⟨i, m, rfl, hm, h1, h2⟩
  · rw [h2] at h; cases h
  · rw [h2] at h; cases h
  · obtain rfl : m = 38 := by omega
    unfold cutL
    rw [if_pos h, List.length_take, List.length_drop]
    omega
theorem get38 (L : List UInt8) (h : L.length = 38) (i m : Nat) (hm : m = 1 ∨ m = 2 ∨ m = 4 ∨ m = 8) (hi : i + m ≤ 38) : getE L.length (i : Int) (m : Int) = 0 ∧ getN L (i : Int) (m : Int) = num ((L.drop i).take m) ∧ num ((L.drop i).take m) < 256 ^ m := by
  rcases get_cases L (i : Int) (m : Int) with ⟨h1, h2, h3⟩ | ⟨h1, h4, h2, h3⟩ | ⟨h1, h4, h2, h3⟩ | ⟨i', m', hi', hm', hmm, h1, h4, h2, h3⟩
  · exfalso
    have := isSz_no h1
    omega
  · exfalso; omega
  · exfalso; omega
  · obtain rfl : i = i' := by omega
    obtain rfl : m = m' := by omega
    refine ⟨h2, h3, ?_⟩
    have := num_lt ((L.drop i).take m)
    have hl : ((L.drop i).take m).length = m := by rw [List.length_take, List.length_drop]; omega
    rwa [hl] at this
theorem gpX_length (l : List UInt8) (at_ : Int) : (gpX l at_).length = 32 := by
  unfold gpX
  split
  · rename_i h; rw [List.length_take, (cut38 h).1]; rfl
  · exact Z32_length

set_option maxRecDepth 100000 in
set_option maxHeartbeats 2000000 in
theorem getPoint_any (v : Value) (l : List UInt8) (at_ : Int) (w : World) (h : Rd w v l) (hr : l.length ≤ 140737488355328) :
    Calls Tryd.prog 58 #[v, .int .i64 at_] w fun e w' => e = .returned (.tuple #[.agg (pcel (gpX l at_) (gpN l at_) (gpH l at_)), .int .i64 (gpP l at_), .int .i64 (gpE l at_)]) ∧ Nx w w' := by
  have HP := Lib.hid (fun w h => part_any v l at_ 38 w h hr)
  have HR := Lib.hid h
  obtain ⟨A, c, rfl, -⟩ := h
  obtain ⟨hz, hzs⟩ := zero_of_info info_point
  have HZL := Lib.hid Z32_length
  by_cases hE : gpE l at_ = 0
  · obtain ⟨q1, q2, q3⟩ := cut38 hE
    obtain ⟨g1, g2, g3⟩ := get38 _ q1 32 2 (by decide) (by decide)
    obtain ⟨k1, k2, k3⟩ := get38 _ q1 34 4 (by decide) (by decide)
    have HG1 : Hid (∀ v w, Rd w v (cutL l at_ 38) → Calls Tryd.prog 44 #[v, .int .i64 32, .int .i64 2] w fun e w' => e = .returned (.tuple #[.int .u64 (gpN l at_ : Int), .int .i64 0]) ∧ w = w') := Lib.hid fun v w h => by
      have := get_any v _ 32 2 w h
      rw [show getE (cutL l at_ 38).length 32 2 = 0 from g1] at this
      unfold gpN
      rw [if_pos hE]
      exact this
    have HG2 : Hid (∀ v w, Rd w v (cutL l at_ 38) → Calls Tryd.prog 44 #[v, .int .i64 34, .int .i64 4] w fun e w' => e = .returned (.tuple #[.int .u64 (gpH l at_ : Int), .int .i64 0]) ∧ w = w') := Lib.hid fun v w h => by
      have := get_any v _ 34 4 w h
      rw [show getE (cutL l at_ 38).length 34 4 = 0 from k1] at this
      unfold gpH
      rw [if_pos hE]
      exact this
    have hn : (gpN l at_ : Int) ≤ 65535 := by unfold gpN; rw [if_pos hE, show getN (cutL l at_ 38) 32 2 = _ from g2]; have : (256 : Nat) ^ 2 = 65536 := by decide
                                              omega
    have hh : (gpH l at_ : Int) ≤ 4294967295 := by unfold gpH; rw [if_pos hE, show getN (cutL l at_ 38) 34 4 = _ from k2]; have : (256 : Nat) ^ 4 = 4294967296 := by decide
                                                   omega
    have HX : Hid (gpX l at_ = (cutL l at_ 38).take 32) := Lib.hid (by unfold gpX; rw [if_pos hE])
    have HPP : Hid (gpP l at_ = at_ + 38) := Lib.hid (by unfold gpP; rw [if_pos hE])
    have HXL := Lib.hid (gpX_length l at_)
    have HEE := Lib.hid hE
    have hEc : cutE l.length at_ 38 = 0 := hE
    rw [hEc] at HP
    have HQ := Lib.hid q1
    have q4 : at_ + 38 ≤ 9223372036854775807 := by omega
    clear hE hEc q1 q3 g1 g2 g3 k1 k2 k3
    rw [HEE.out, HPP.out]
    generalize cutL l at_ 38 = L at *
    generalize gpX l at_ = X at *
    generalize gpN l at_ = N at *
    generalize gpH l at_ = H at *
    go_enter Tryd.func58, Tryd.ntmps58
    go_wp2_with fail
    refine (HP.out _ (HR.out.alloc _)).mono ?_
    rintro e w1 ⟨v1, rfl, o1, n1⟩
    have R4 := (Row.new w (pcel Z32 0 0) 42 _ rfl).nx n1
    have N1 := Lib.hid (((Nx.refl w).alloc (.cells (pcel Z32 0 0) 42)).trans n1)
    have O1 := Lib.hid o1.rd
    obtain ⟨A1, c1, rfl, -⟩ := o1.rd
    clear o1 n1
    go_wp2_with fail
    refine (HG1.out _ _ O1.out).mono ?_
    rintro e w2 ⟨rfl, rfl⟩
    go_wp2_with fail
    refine (HG2.out _ _ O1.out).mono ?_
    rintro e w2 ⟨rfl, rfl⟩
    have HU8 : (Tryd.prog.info? 5).map (·.size) = some 1 := by kernel_rfl
    have ip := Lib.hid (pointsz Z32 N H HZL.out)
    have ix := Lib.hid (pointsz X N H HXL.out)
    have jp := Lib.hid (pointsame Z32 Z32 0 0 N H HZL.out HZL.out)
    have jx := Lib.hid (pointsame Z32 X 0 0 N H HZL.out HXL.out)
    have RP := Row.new w1 (pcel Z32 0 0) 42 _ rfl
    have RP2 := RP.setRow (pcel Z32 N H)
    have hsl := fun w' => slice_arr_all (P := Tryd.prog) 22 5 32 Tryd.underlying22 Tryd.sizeOf5 w1.heap.size (by omega) w'
    have hsl2 := fun w' => slice_arr_all (P := Tryd.prog) 23 5 32 Tryd.underlying23 Tryd.sizeOf5 w1.heap.size (by omega) w'
    have RL := O1.out
    obtain ⟨A1', c1', hA, -, -, ha1⟩ := RL
    obtain ⟨rfl, rfl⟩ : A1 = A1' ∧ c1 = c1' := by injection hA with h1 h2 h3; exact ⟨h1, h3⟩
    obtain ⟨b1, o1, rfl, hb1, hc1⟩ := ha1 (by rw [HQ.out]; decide)
    have NW : Hid (Nx w1 ((w1.alloc (.cells (pcel Z32 0 0) 42)).setRow w1.heap.size (pcel Z32 N H))) := Lib.hid (((Nx.refl w1).alloc _).setRow _ (Nat.le_refl _))
    have HN : Hid ((bvs X).length = Nat.min L.length 32) := Lib.hid (by rw [bvs_length, HXL.out, HQ.out]; rfl)
    have HF : Hid (0 + (bvs X).length ≤ (pcel Z32 N H).size) := Lib.hid (by rw [bvs_length, HXL.out, pcel_size _ _ _ HZL.out]; decide)
    have HS : Hid (∀ j v, (bvs X)[j]? = some v → ((w1.alloc (.cells (pcel Z32 0 0) 42)).setRow w1.heap.size (pcel Z32 N H)).cell? ((⟨b1, o1, none⟩ : Addr).add j) = some v) := Lib.hid fun j v hv => by
      obtain ⟨hj, rfl⟩ := bvs_get hv
      rw [addr_add, NW.out.cell (p := ⟨b1, o1 + j, none⟩) hb1]
      have hjL : j < L.length := by have := HXL.out; have := HQ.out; omega
      rw [hc1 j hjL]
      congr 2
      simp only [HX.out, List.getElem_take]
    have HEQ : Hid (((pcel Z32 N H).toList.take 0 ++ (bvs X ++ (pcel Z32 N H).toList.drop (0 + (bvs X).length))).toArray = pcel X N H) := Lib.hid (by
      rw [bvs_length, HXL.out]
      simp [pcel, pcl, List.drop_append, bvs_length, HZL.out])
    have R42 := (R4.alloc (.cells (pcel Z32 0 0) 42)).setRow_other (k := w1.heap.size) (pcel Z32 N H) (Nat.ne_of_lt R4.lt)
    clear hc1 hA ha1
    have RP3 := RP2.setRow (pcel X N H)
    have R43 := R42.setRow_other (k := w1.heap.size) (pcel X N H) (Nat.ne_of_lt R4.lt)
    have NW3 := Lib.hid ((N1.out.trans NW.out).setRow (pcel X N H) N1.out.size)
    have hl : w.heap.size ≤ w.heap.size := Nat.le_refl _
    go_wp2_with (first | (refine wpList_val (some 38) rfl rfl (.agg (pcel Z32 N H)) ?_ ?_; (focus kernel_rfl)) | (refine wpList_store_row rfl 42 (.tmp 13) (.tmp 38) rfl w1.heap.size (pcel Z32 N H) rfl rfl 42 (pcel Z32 0 0) RP ip.out jp.out (pcel_one _ _ _) ?_) | (refine wpList_copy_own rfl (.tmp 40) (.tmp 41) _ _ rfl 5 Tryd.underlying43 HU8 w1.heap.size 0 32 32 ⟨b1, o1, none⟩ L.length c1 rfl rfl (pcel Z32 N H) 42 RP2 (bvs X) HN.out HS.out HF.out (bvs_one _) ?_; rw [HEQ.out]) | (refine wpList_load_row rfl 42 (.tmp 13) rfl w1.heap.size rfl 42 (pcel X N H) (0, 0) _ RP3 Tryd.underlying42 rfl ix.out ?_) | (refine wpList_store_row rfl 42 (.tmp 4) (.tmp 43) rfl w.heap.size (pcel X N H) rfl rfl 42 (pcel Z32 0 0) R43 ix.out jx.out (pcel_one _ _ _) ?_))
    exact bodyPost_ret (results_cell_row3 Tryd.results58 _ _ w.heap.size 42 (pcel X N H) (0, 0) _ rfl (R43.setRow _) Tryd.underlying42 rfl ix.out) rfl ⟨rfl, NW3.out.setRow _ hl⟩
  · have HE : Hid (gpE l at_ = cutE l.length at_ 38) := Lib.hid rfl
    have h1 : gpX l at_ = Z32 := by unfold gpX; rw [if_neg hE]
    have h2 : gpN l at_ = 0 := by unfold gpN; rw [if_neg hE]
    have h3 : gpH l at_ = 0 := by unfold gpH; rw [if_neg hE]
    have h4 : gpP l at_ = 0 := by unfold gpP; rw [if_neg hE]
    rw [h1, h2, h3, h4]
    rw [HE.out] at hE ⊢
    generalize cutE l.length at_ 38 = E at *
    have dE : (E != 0) = true := by simp [hE]
    clear h1 h2 h3 h4 hE HE
    have ip := Lib.hid (pointsz Z32 0 0 HZL.out)
    generalize cutL l at_ 38 = L at *
    go_enter Tryd.func58, Tryd.ntmps58
    go_wp2_with fail
    refine (HP.out _ (HR.out.alloc _)).mono ?_
    rintro e w1 ⟨v1, rfl, o1, n1⟩
    have R4 := (Row.new w (pcel Z32 0 0) 42 _ rfl).nx n1
    have N1 := Lib.hid (((Nx.refl w).alloc (.cells (pcel Z32 0 0) 42)).trans n1)
    clear o1 n1
    have hl : w.heap.size ≤ w.heap.size := Nat.le_refl _
    go_wp2_with (first | (refine wpList_val (some 22) rfl rfl (.agg (pcel Z32 0 0)) ?_ ?_; (focus kernel_rfl)) | (refine wpList_store_row rfl 42 (.tmp 4) (.tmp 22) rfl w.heap.size (pcel Z32 0 0) rfl rfl 42 (pcel Z32 0 0) R4 ip.out rfl (pcel_one _ _ _) ?_))
    exact bodyPost_ret (results_cell_row3 Tryd.results58 _ _ w.heap.size 42 (pcel Z32 0 0) (0, 0) _ rfl (R4.setRow _) Tryd.underlying42 rfl ip.out) rfl ⟨rfl, N1.out.setRow _ hl⟩
end Go.Proofs.YtpijehaciomkhaaDoor
end

section
namespace Go.Proofs.YtpijehaciomkhaaDoor
open Go Go.RowKit
set_option linter.unusedVariables false
set_option linter.unusedSimpArgs false

theorem Own.setRow_lt {B k : Nat} {w : World} {v : Value} {l : List UInt8} (h : Own B w v l) (cs : Array Value) (hk : k < B) : Own B (w.setRow k cs) v l := by
  rcases h with h2 | ⟨g, full, rfl, hb, hg, rest⟩
  · exact .inl h2
  · exact .inr ⟨g, full, rfl, hb, by rw [Go.setRow_other _ _ _ _ (by omega)]; exact hg, rest⟩
theorem wpList_built {P : Program} {ops : Array Oper} {rest : List Oper} {o : Oper} {a : Act} {w : World} {Q : Exit → Act → World → Prop} (dst : Option Tmp) (hds : o.dst = dst) (hg : o.guard = none) (t : TypeId) (parts : Array (Nat × Operand)) (ho : o.op = .build t parts)
    (L : List (Nat × Value)) (hp : (parts.map fun (i, x) => (i, a.eval x)).toList = L) (cs : Array Value) (hb : P.built t L = some cs)
    (h : wpList P ops Q rest (a.put dst (.agg cs)) w) : wpList P ops Q (o :: rest) a w := by
  subst hds hp
  refine wpList_build hg t parts ho (by rw [hb]; rfl) ?_
  rw [hb]
  exact h

theorem info_out : (Tryd.prog.info? 48).map (fun i => (i.zero, i.size)) = some (some (.agg #[.int .u64 0, .slice none 0 0]), 2) := by kernel_rfl
theorem built_out (v : Nat) (A : Option Addr) (n c : Nat) : Tryd.prog.built 48 [(0, .int .u64 (v : Int)), (1, .slice A n c)] = some #[.int .u64 (v : Int), .slice A n c] := by kernel_rfl
theorem ocel_one (v : Int) (A : Option Addr) (n c : Nat) : (#[.int .u64 v, .slice A n c] : Array Value).all (·.oneCell') = true := by kernel_rfl
theorem ccel_one (tx : List UInt8) (n h v : Nat) (b : Bool) (A : Option Addr) (k c : Nat) : (ccel tx n h v b (.slice A k c)).all (·.oneCell') = true := by
  rw [Array.all_eq_true']
  intro x hx
  simp only [ccel, pcl, List.mem_toArray, List.mem_append, List.mem_cons, List.not_mem_nil, or_false] at hx
  rcases hx with (h | rfl | rfl) | rfl | rfl | rfl
  · exact bvs_one tx x h
  all_goals rfl

theorem list32 (l : List UInt8) (h : l.length = 32) : ∃ x0 x1 x2 x3 x4 x5 x6 x7 x8 x9 x10 x11 x12 x13 x14 x15 x16 x17 x18 x19 x20 x21 x22 x23 x24 x25 x26 x27 x28 x29 x30 x31 : UInt8, l = [x0, x1, x2, x3, x4, x5, x6, x7, x8, x9, x10, x11, x12, x13, x14, x15, x16, x17, x18, x19, x20, x21, x22, x23, x24, x25, x26, x27, x28, x29, x30, x31] := by
  rcases l with _ | ⟨x0, l⟩
  · simp at h
  rcases l with _ | ⟨x1, l⟩
  · simp at h
  rcases l with _ | ⟨x2, l⟩
  · simp at h
  rcases l with _ | ⟨x3, l⟩
  · simp at h
  rcases l with _ | ⟨x4, l⟩
  · simp at h
  rcases l with _ | ⟨x5, l⟩
  · simp at h
  rcases l with _ | ⟨x6, l⟩
  · simp at h
  rcases l with _ | ⟨x7, l⟩
  · simp at h
  rcases l with _ | ⟨x8, l⟩
  · simp at h
  rcases l with _ | ⟨x9, l⟩
  · simp at h
  rcases l with _ | ⟨x10, l⟩
  · simp at h
  rcases l with _ | ⟨x11, l⟩
  · simp at h
  rcases l with _ | ⟨x12, l⟩
  · simp at h
  rcases l with _ | ⟨x13, l⟩
  · simp at h
  rcases l with _ | ⟨x14, l⟩
  · simp at h
  rcases l with _ | ⟨x15, l⟩
  · simp at h
  rcases l with _ | ⟨x16, l⟩
  · simp at h
  rcases l with _ | ⟨x17, l⟩
  · simp at h
  rcases l with _ | ⟨x18, l⟩
  · simp at h
  rcases l with _ | ⟨x19, l⟩
  · simp at h
  rcases l with _ | ⟨x20, l⟩
  · simp at h
  rcases l with _ | ⟨x21, l⟩
  · simp at h
  rcases l with _ | ⟨x22, l⟩
  · simp at h
  rcases l with _ | ⟨x23, l⟩
  · simp at h
  rcases l with _ | ⟨x24, l⟩
  · simp at h
  rcases l with _ | ⟨x25, l⟩
  · simp at h
  rcases l with _ | ⟨x26, l⟩
  · simp at h
  rcases l with _ | ⟨x27, l⟩
  · simp at h
  rcases l with _ | ⟨x28, l⟩
  · simp at h
  rcases l with _ | ⟨x29, l⟩
  · simp at h
  rcases l with _ | ⟨x30, l⟩
  · simp at h
  rcases l with _ | ⟨x31, l⟩
  · simp at h
  rcases l with _ | ⟨y, l⟩
  · exact ⟨x0, x1, x2, x3, x4, x5, x6, x7, x8, x9, x10, x11, x12, x13, x14, x15, x16, x17, x18, x19, x20, x21, x22, x23, x24, x25, x26, x27, x28, x29, x30, x31, rfl⟩
  · simp at h
/-- What GetOut answers: worth, lock, place, error. -/
def goT (l : List UInt8) (at_ : Int) : Nat × List UInt8 × Int × Int :=
  if (gvT l at_).2.2 ≠ 0 then (0, [], 0, (gvT l at_).2.2)
  else if (gr l (gvT l at_).2.1 100).2.2 ≠ 0 then (0, [], 0, (gr l (gvT l at_).2.1 100).2.2)
  else ((gvT l at_).1, (gr l (gvT l at_).2.1 100).1, (gr l (gvT l at_).2.1 100).2.1, 0)

set_option maxRecDepth 100000 in
set_option maxHeartbeats 4000000 in
theorem getOut_any (v : Value) (l : List UInt8) (at_ : Int) (w : World) (h : Rd w v l) (hr : l.length ≤ 140737488355328) :
    Calls Tryd.prog 60 #[v, .int .i64 at_] w fun e w' => ∃ lk, e = .returned (.tuple #[.agg #[.int .u64 ((goT l at_).1 : Int), lk], .int .i64 (goT l at_).2.2.1, .int .i64 (goT l at_).2.2.2]) ∧ Own w.heap.size w' lk (goT l at_).2.1 ∧ Nx w w' := by
  have HV := Lib.hid (fun w h => getValue_any v l at_ w h hr)
  have HW := Lib.hid (fun w h => getRow_any v l (gvT l at_).2.1 100 w h hr (by decide))
  have HR := Lib.hid h
  obtain ⟨hz, hzs⟩ := zero_of_info info_out
  have io := Lib.hid hzs
  obtain ⟨A, c, rfl, -⟩ := h
  have hl : w.heap.size ≤ w.heap.size := Nat.le_refl _
  have R40 := Row.new w #[.int .u64 0, .slice none 0 0] 48 _ rfl
  have N40 := Lib.hid ((Nx.refl w).alloc (.cells #[.int .u64 0, .slice none 0 0] 48))
  unfold goT
  generalize (gvT l at_).1 = V at *
  generalize (gvT l at_).2.1 = P1 at *
  generalize (gvT l at_).2.2 = E1 at *
  generalize (gr l P1 100).1 = L at *
  generalize (gr l P1 100).2.1 = P2 at *
  generalize (gr l P1 100).2.2 = E2 at *
  by_cases hE1 : E1 = 0
  · subst hE1
    rw [if_neg (by simp)]
    by_cases hE2 : E2 = 0
    · subst hE2
      rw [if_neg (by simp)]
      go_enter Tryd.func60, Tryd.ntmps60
      go_wp2_with fail
      refine (HV.out _ (HR.out.alloc _)).mono ?_
      rintro e w1 ⟨rfl, rfl⟩
      go_wp2_with fail
      refine (HW.out _ (HR.out.alloc _)).mono ?_
      rintro e w1 ⟨v2, rfl, o1, n1⟩
      have R4 := R40.nx n1
      have N1 := Lib.hid (N40.out.trans n1)
      have O1 := Lib.hid (o1.setRow_lt (k := w.heap.size) #[.int .u64 (V : Int), v2] (by simp))
      obtain ⟨A2, c2, rfl, -⟩ := o1.rd
      clear o1 n1
      go_wp2_with (first | (refine wpList_built (some 34) rfl rfl 48 _ rfl [(0, .int .u64 (V : Int)), (1, .slice A2 L.length c2)] (by kernel_rfl) _ (built_out V A2 L.length c2) ?_) | (refine wpList_store_row rfl 48 (.tmp 4) (.tmp 34) rfl w.heap.size #[.int .u64 (V : Int), .slice A2 L.length c2] rfl rfl 48 #[.int .u64 0, .slice none 0 0] R4 io.out rfl (ocel_one _ _ _ _) ?_))
      exact bodyPost_ret (results_cell_row3 Tryd.results60 _ _ w.heap.size 48 #[.int .u64 (V : Int), .slice A2 L.length c2] (0, 0) _ rfl (R4.setRow _) Tryd.underlying48 rfl io.out) rfl ⟨_, rfl, O1.out.mono (by simp), N1.out.setRow _ hl⟩
    · rw [if_pos hE2]
      have dE : (E2 != 0) = true := by simp [hE2]
      clear hE2
      go_enter Tryd.func60, Tryd.ntmps60
      go_wp2_with fail
      refine (HV.out _ (HR.out.alloc _)).mono ?_
      rintro e w1 ⟨rfl, rfl⟩
      go_wp2_with fail
      refine (HW.out _ (HR.out.alloc _)).mono ?_
      rintro e w1 ⟨v2, rfl, o1, n1⟩
      have R4 := R40.nx n1
      have N1 := Lib.hid (N40.out.trans n1)
      clear o1 n1
      go_wp2_with (first | (refine wpList_store_row rfl 48 (.tmp 4) (.tmp 30) rfl w.heap.size #[.int .u64 0, .slice none 0 0] rfl rfl 48 #[.int .u64 0, .slice none 0 0] R4 io.out rfl (ocel_one _ _ _ _) ?_))
      exact bodyPost_ret (results_cell_row3 Tryd.results60 _ _ w.heap.size 48 #[.int .u64 0, .slice none 0 0] (0, 0) _ rfl (R4.setRow _) Tryd.underlying48 rfl io.out) rfl ⟨_, rfl, Own.nil _ _, N1.out.setRow _ hl⟩
  · rw [if_pos hE1]
    have dE : (E1 != 0) = true := by simp [hE1]
    clear hE1
    go_enter Tryd.func60, Tryd.ntmps60
    go_wp2_with fail
    refine (HV.out _ (HR.out.alloc _)).mono ?_
    rintro e w1 ⟨rfl, rfl⟩
    go_wp2_with (first | (refine wpList_store_row rfl 48 (.tmp 4) (.tmp 19) rfl w.heap.size #[.int .u64 0, .slice none 0 0] rfl rfl 48 #[.int .u64 0, .slice none 0 0] R40 io.out rfl (ocel_one _ _ _ _) ?_))
    exact bodyPost_ret (results_cell_row3 Tryd.results60 _ _ w.heap.size 48 #[.int .u64 0, .slice none 0 0] (0, 0) _ rfl (R40.setRow _) Tryd.underlying48 rfl io.out) rfl ⟨_, rfl, Own.nil _ _, N40.out.setRow _ hl⟩
end Go.Proofs.YtpijehaciomkhaaDoor
end

section
namespace Go.Proofs.YtpijehaciomkhaaDoor
open Go Go.RowKit
set_option linter.unusedVariables false
set_option linter.unusedSimpArgs false

structure GC where
  x : List UInt8
  n : Nat
  h : Nat
  v : Nat
  b : Bool
  lk : List UInt8
  p : Int
  e : Int
def GC.bad (e : Int) : GC := ⟨Z32, 0, 0, 0, false, [], 0, e⟩
/-- What Get answers. -/
def gcT (l : List UInt8) (at_ : Int) : GC :=
  if gpE l at_ ≠ 0 then .bad (gpE l at_)
  else if (gvT l (gpP l at_)).2.2 ≠ 0 then .bad (gvT l (gpP l at_)).2.2
  else if (gbT l (gvT l (gpP l at_)).2.1).2.2 ≠ 0 then .bad (gbT l (gvT l (gpP l at_)).2.1).2.2
  else if (gr l (gbT l (gvT l (gpP l at_)).2.1).2.1 100).2.2 ≠ 0 then .bad (gr l (gbT l (gvT l (gpP l at_)).2.1).2.1 100).2.2
  else ⟨gpX l at_, gpN l at_, gpH l at_, (gvT l (gpP l at_)).1, (gbT l (gvT l (gpP l at_)).2.1).1, (gr l (gbT l (gvT l (gpP l at_)).2.1).2.1 100).1, (gr l (gbT l (gvT l (gpP l at_)).2.1).2.1 100).2.1, 0⟩

end Go.Proofs.YtpijehaciomkhaaDoor
end

section
namespace Go.Proofs.YtpijehaciomkhaaDoor
open Go Go.RowKit
set_option linter.unusedVariables false
set_option linter.unusedSimpArgs false

theorem gcT_x (l : List UInt8) (at_ : Int) : (gcT l at_).x.length = 32 := by
  unfold gcT
  split
  · exact Z32_length
  split
  · exact Z32_length
  split
  · exact Z32_length
  split
  · exact Z32_length
  · exact gpX_length _ _
/-- What Read answers. -/
def rdT (l : List UInt8) : GC := if (gcT l 0).e ≠ 0 then .bad (gcT l 0).e else if (gcT l 0).p ≠ (l.length : Int) then .bad 5 else gcT l 0
theorem results_cell_row2 {P : Program} {fn : Func} {p u : Tmp} {ty : TypeId} (h : fn.results = #[.cell p ty, .tmp u]) (tmps : Array Value) (w : World) (g : Nat) (t : TypeId) (cs : Array Value) (fr : Nat × Nat) (d : TypeDesc)
    (hp : tmps.getD p undef = .pointer (some ⟨g, 0, none⟩)) (hg : w.heap[g]? = some (.cells cs t fr))
    (hu : P.underlying ty = some d) (hd : (match d with | .struct _ | .array _ _ => true | _ => false) = true) (hi : (P.info? ty).map (·.size) = some cs.size) :
    (results fn tmps).run P w = .ok (.tuple #[.agg cs, tmps.getD u undef]) w := by
  have hp' : tmps[p]?.getD undef = .pointer (some ⟨g, 0, none⟩) := by simpa using hp
  simp [results, h, hp', asAddr, run_loadVar_row w g t ty cs fr d hg hu hd hi, Sem.run_bind, Result.andThen]

end Go.Proofs.YtpijehaciomkhaaDoor
end

section
namespace Go.Proofs.YtpijehaciomkhaaDoor
open Go Go.RowKit
set_option linter.unusedVariables false
set_option linter.unusedSimpArgs false

section
variable {P : Program}
theorem wp_load_cell {o : Oper} {a : Act} {w : World} {K : Act → World → Prop} {Q : Exit → Act → World → Prop} (dst : Option Tmp) (hdst : o.dst = dst) (ty : TypeId) (x : Operand) (ho : o.op = .load ty x)
    (g k : Nat) (hx : a.eval x = .pointer (some ⟨g, k, none⟩)) (v : Value) (d : TypeDesc) (hc : w.cell? ⟨g, k, none⟩ = some v)
    (hu : P.underlying ty = some d) (hd : (match d with | .struct _ | .array _ _ => true | _ => false) = false)
    (h : K (a.put dst v) w) : o.wp P a w K Q := by
  subst hdst
  have hagg : (isAgg ty).run P w = .ok false w := by
    unfold isAgg
    rw [Sem.run_bind, run_underlying hu w]
    cases d <;> simp_all
  have hl : (loadVar ty ⟨g, k, none⟩).run P w = .ok v w := by
    simp [loadVar, Sem.run_bind, hagg, hc]
  unfold Oper.wp execOp
  simp only [ho, hx, Instr.loadAt, Instr.sureAddr, Sem.run_bind, Sem.run_pure, Result.andThen_ok, hl]
  exact h
end
/-- May it be? -/
def mayB (v n : Nat) : Bool := decide (v ≤ 1125899906842624) && decide (n ≤ 100)
theorem mayBe_any (v : Nat) (lv : Value) (l : List UInt8) (w : World) (h : Rd w lv l) (hr : l.length ≤ 140737488355328) :
    Calls Tryd.prog 38 #[.int .u64 (v : Int), lv] w fun e w' => e = .returned (.bool (mayB v l.length)) ∧ w = w' := by
  obtain ⟨A, c, rfl, -⟩ := h
  unfold mayB
  have h1 : decide ((v : Int) ≤ 1125899906842624) = decide (v ≤ 1125899906842624) := by rw [Bool.eq_iff_iff, decide_eq_true_iff, decide_eq_true_iff]; omega
  have h2 : decide ((l.length : Int) ≤ 100) = decide (l.length ≤ 100) := by rw [Bool.eq_iff_iff, decide_eq_true_iff, decide_eq_true_iff]; omega
  have HR := Lib.hid hr
  rw [← h1, ← h2]
  clear h1 h2 hr
  rcases hx : decide ((v : Int) ≤ 1125899906842624) with _ | _
  · go_enter Tryd.func38, Tryd.ntmps38
    go_wp2_with fail
    go_ret
    exact ⟨rfl, rfl⟩
  · rcases hy : decide ((l.length : Int) ≤ 100) with _ | _
    all_goals
      go_enter Tryd.func38, Tryd.ntmps38
      go_wp2_with fail
      go_ret
      exact ⟨rfl, rfl⟩
end Go.Proofs.YtpijehaciomkhaaDoor
end

section
namespace Go.Proofs.YtpijehaciomkhaaDoor
open Go Go.RowKit
set_option linter.unusedVariables false
set_option linter.unusedSimpArgs false

theorem wp_conv_of {P : Program} {o : Oper} {a : Act} {w : World} {K : Act → World → Prop} {Q : Exit → Act → World → Prop} (dst : Option Tmp) (hd : o.dst = dst) (s d : TypeId) (x : Operand) (ho : o.op = .convert s d x) (v : Value)
    (hrun : (Go.convert s d (a.eval x)).run P w = .ok v w) (h : K (a.put dst v) w) : o.wp P a w K Q := by
  refine wp_val_of dst hd v ?_ h
  unfold execOp
  simp only [ho]
  simp only [Sem.run_bind, hrun, Result.andThen_ok, Sem.run_pure]
theorem conv16 (n : Nat) (h : n < 65536) (w : World) : (Go.convert 40 46 (.int .u16 (n : Int))).run Tryd.prog w = .ok (.int .u64 (n : Int)) w := by
  have e : (Go.convert 40 46 (.int .u16 (n : Int))).run Tryd.prog w = .ok (.int .u64 (IntKind.u64.wrap (n : Int))) w := by kernel_rfl
  rw [e, IntKind.wrap_u64, Int.emod_eq_of_lt (by omega) (by omega)]
theorem conv32 (n : Nat) (h : n < 4294967296) (w : World) : (Go.convert 24 46 (.int .u32 (n : Int))).run Tryd.prog w = .ok (.int .u64 (n : Int)) w := by
  have e : (Go.convert 24 46 (.int .u32 (n : Int))).run Tryd.prog w = .ok (.int .u64 (IntKind.u64.wrap (n : Int))) w := by kernel_rfl
  rw [e, IntKind.wrap_u64, Int.emod_eq_of_lt (by omega) (by omega)]
theorem putL_short (n : Nat) (s : Int) : (putL n s).length ≤ 8 := by
  rcases part_of_put n s with ⟨-, -, h⟩ | ⟨k, -, hk, -, ⟨-, -, h⟩ | ⟨-, -, h⟩⟩
  · rw [h]; decide
  · rw [h, low_length]; omega
  · rw [h]; decide
theorem pcel_rd {w : World} {g : Nat} {tx : List UInt8} {n h : Nat} {t : TypeId} (r : Row w g (pcel tx n h) t) (ht : tx.length = 32) : Rd w (.slice (some ⟨g, 0, none⟩) 32 32) tx :=
  ⟨some ⟨g, 0, none⟩, 32, by rw [ht], by omega, by simp only [maxLen]; omega, At.of_cells r.lt fun j hj => by rw [Nat.zero_add]; exact r.cell (pcel_tx tx n h j hj)⟩
/-- A point's bytes. -/
def ptL (tx : List UInt8) (n h : Nat) : List UInt8 := tx ++ (putL n 2 ++ putL h 4)
set_option maxRecDepth 100000 in
set_option maxHeartbeats 4000000 in
theorem putPoint_any (tx : List UInt8) (n h : Nat) (ht : tx.length = 32) (hn : n < 65536) (hh : h < 4294967296) (w : World) :
    Calls Tryd.prog 21 #[.agg (pcel tx n h)] w fun e w' => ∃ v, e = .returned v ∧ Own w.heap.size w' v (ptL tx n h) ∧ Nx w w' := by
  have HN1 := Lib.hid (fun w => cnumb_any n 2 w)
  have HN2 := Lib.hid (fun w => cnumb_any h 4 w)
  have HL1 := Lib.hid (putL_short n 2)
  have HL2 := Lib.hid (putL_short h 4)
  unfold ptL
  generalize putL n 2 = B1 at *
  generalize putL h 4 = B2 at *
  have HT := Lib.hid ht
  have HCN := Lib.hid (pcel_n tx n h ht)
  have HCH := Lib.hid (pcel_h tx n h ht)
  have HC1 := Lib.hid (fun w => conv16 n hn w)
  have HC2 := Lib.hid (fun w => conv32 h hh w)
  have HSL := Lib.hid (fun w' => slice_arr_all (P := Tryd.prog) 23 5 32 Tryd.underlying23 Tryd.sizeOf5 w.heap.size (by omega) w')
  have HCC : Hid (∀ (wr : World) (x : Value), CatAt x [tx, B1, B2] wr → w.heap.size ≤ wr.heap.size → Calls Tryd.prog 15 #[x] wr fun e w' => ∃ v, e = .returned v ∧ Own w.heap.size w' v (tx ++ (B1 ++ B2)) ∧ Nx wr w') := Lib.hid fun wr x h hB => by
    have := concat_at wr h (by simp) (by have := HL1.out; have := HL2.out; have := HT.out; simp only [List.flatten_cons, List.flatten_nil, List.append_nil, List.length_append]; omega) _ hB
    simpa only [List.flatten_cons, List.flatten_nil, List.append_nil] using this
  have RP0 := Row.new w (pcel tx n h) 42 _ rfl
  have NW := Lib.hid ((Nx.refl w).alloc (.cells (pcel tx n h) 42))
  generalize tx ++ (B1 ++ B2) = L at *
  clear ht hn hh
  go_enter Tryd.func21, Tryd.ntmps21
  go_wp2_with fail
  have RT := Lib.hid (pcel_rd RP0 HT.out)
  have HWS := NW.out.size
  generalize w.alloc (.cells (pcel tx n h) 42) = W at *
  refine wp_region_nx 13 [[], [0], [], [2], [3], [4], [], [6], [7], [8, 5], [1, 5, 9], [10, 9], [11, 11, 0, 1, 2, 3, 4, 5, 6, 7, 8, 9, 10, 11]] [some 3, some 4, some 5, some 6, some 7, some 8, some 9, some 10, some 11, some 12, some 13, some 14, some 2]
    [.eq (.pointer (some ⟨w.heap.size, 0, none⟩)), .eq (.slice (some ⟨w.heap.size, 0, none⟩) 32 32), .eq (.pointer (some ⟨w.heap.size, 32, none⟩)), .eq (.int .u16 (n : Int)), .eq (.int .u64 (n : Int)), .rd (B1), .eq (.pointer (some ⟨w.heap.size, 33, none⟩)), .eq (.int .u32 (h : Int)), .eq (.int .u64 (h : Int)), .rd (B2), ⟨fun v w => CatAt v [tx, B1, B2] w, fun _ _ _ h k => h.nx k⟩, .own w.heap.size L, .own w.heap.size L]
    (by kernel_rfl) (by kernel_rfl) (hord_of (by decide)) (by kernel_rfl) (by decide) (by decide) (htail_of (by decide)) ?_ _ (by rfl) ?_
  · intro x tm wr htm hx i hi hd K hK
    simp only [fillA, List.setIfInBounds_toArray, List.set_cons_zero, List.set_cons_succ] at htm
    subst htm
    have hcs : i = 0 ∨ i = 1 ∨ i = 2 ∨ i = 3 ∨ i = 4 ∨ i = 5 ∨ i = 6 ∨ i = 7 ∨ i = 8 ∨ i = 9 ∨ i = 10 ∨ i = 11 ∨ i = 12 := by omega
    clear hi
    rcases hcs with rfl | rfl | rfl | rfl | rfl | rfl | rfl | rfl | rfl | rfl | rfl | rfl | rfl
    · exact wpOp_of rfl rfl (wp_val_of (some 3) rfl (.pointer (some ⟨w.heap.size, 0, none⟩)) (by kernel_rfl) (hK _ _ rfl (Nx.refl _)))
    · have e0 : x 0 = .pointer (some ⟨w.heap.size, 0, none⟩) := hd 0 (by decide)
      generalize x 0 = y0 at e0 hK ⊢
      subst e0
      exact wpOp_of rfl rfl (wp_slice_of (some 4) rfl 23 (.tmp 3) none none none rfl (.slice (some ⟨w.heap.size, 0, none⟩) 32 32) (HSL.out wr) (hK _ _ rfl (Nx.refl _)))
    · exact wpOp_of rfl rfl (wp_val_of (some 5) rfl (.pointer (some ⟨w.heap.size, 32, none⟩)) (by kernel_rfl) (hK _ _ rfl (Nx.refl _)))
    · have e2 : x 2 = .pointer (some ⟨w.heap.size, 32, none⟩) := hd 2 (by decide)
      generalize x 2 = y2 at e2 hK ⊢
      subst e2
      exact wpOp_of rfl rfl (wp_load_cell (some 6) rfl 40 (.tmp 5) rfl (w.heap.size) 32 rfl (.int .u16 (n : Int)) _ ((RP0.nx hx).cell HCN.out) Tryd.underlying40 rfl (hK _ _ rfl (Nx.refl _)))
    · have e3 : x 3 = .int .u16 (n : Int) := hd 3 (by decide)
      generalize x 3 = y3 at e3 hK ⊢
      subst e3
      exact wpOp_of rfl rfl (wp_conv_of (some 7) rfl 40 46 (.tmp 6) rfl (.int .u64 (n : Int)) (HC1.out wr) (hK _ _ rfl (Nx.refl _)))
    · have e4 : x 4 = .int .u64 (n : Int) := hd 4 (by decide)
      generalize x 4 = y4 at e4 hK ⊢
      subst e4
      refine wpOp_of rfl rfl (wp_callp_of (some 8) rfl 37 #[(.int .u64 (n : Int)), .int .i64 2] (by kernel_rfl) (fun v w' => Rd w' v (B1)) ?_ hK)
      exact (HN1.out wr).mono fun _ _ ⟨v, h1, h2, h3⟩ => ⟨v, h1, h2.rd, h3⟩
    · exact wpOp_of rfl rfl (wp_val_of (some 9) rfl (.pointer (some ⟨w.heap.size, 33, none⟩)) (by kernel_rfl) (hK _ _ rfl (Nx.refl _)))
    · have e6 : x 6 = .pointer (some ⟨w.heap.size, 33, none⟩) := hd 6 (by decide)
      generalize x 6 = y6 at e6 hK ⊢
      subst e6
      exact wpOp_of rfl rfl (wp_load_cell (some 10) rfl 24 (.tmp 9) rfl (w.heap.size) 33 rfl (.int .u32 (h : Int)) _ ((RP0.nx hx).cell HCH.out) Tryd.underlying24 rfl (hK _ _ rfl (Nx.refl _)))
    · have e7 : x 7 = .int .u32 (h : Int) := hd 7 (by decide)
      generalize x 7 = y7 at e7 hK ⊢
      subst e7
      exact wpOp_of rfl rfl (wp_conv_of (some 11) rfl 24 46 (.tmp 10) rfl (.int .u64 (h : Int)) (HC2.out wr) (hK _ _ rfl (Nx.refl _)))
    · have e8 : x 8 = .int .u64 (h : Int) := hd 8 (by decide)
      have r5 : Rd wr (x 5) (B1) := hd 5 (by decide)
      generalize x 8 = y8 at e8 hK ⊢
      subst e8
      refine wpOp_of rfl rfl (wp_callp_of (some 12) rfl 37 #[(.int .u64 (h : Int)), .int .i64 4] (by kernel_rfl) (fun v w' => Rd w' v (B2)) ?_ hK)
      exact (HN2.out wr).mono fun _ _ ⟨v, h1, h2, h3⟩ => ⟨v, h1, h2.rd, h3⟩
    · have e1 : x 1 = .slice (some ⟨w.heap.size, 0, none⟩) 32 32 := hd 1 (by decide)
      have r5 : Rd wr (x 5) (B1) := hd 5 (by decide)
      have r9 : Rd wr (x 9) (B2) := hd 9 (by decide)
      generalize x 1 = y1 at e1 hK ⊢
      subst e1
      have RA := (RT.out.nx hx)
      refine wpOp_of rfl rfl (wp_mk_of (some 13) rfl 57 3 _ rfl (#[(0, .slice (some ⟨w.heap.size, 0, none⟩) 32 32), (1, x 5), (2, x 9)]) (by kernel_rfl) _ _ (run_mk3 RA.sl r5.sl r9.sl wr) (hK _ _ ?_ ((Nx.refl wr).alloc _)))
      exact catAt3 RA r5 r9
    · have r10 := hd 10 (by decide)
      have r9 : Rd wr (x 9) (B2) := hd 9 (by decide)
      refine wpOp_of rfl rfl (wp_callp_of (some 14) rfl 15 #[x 10] (by kernel_rfl) (fun v w1 => Own w.heap.size w1 v L) (HCC.out wr _ r10 (Nat.le_trans HWS hx.size)) hK)
    · have r11 := hd 11 (by decide)
      exact wpOp_of rfl rfl (wp_val_of (some 2) rfl (x 11) (by kernel_rfl) (hK _ _ r11 (Nx.refl _)))
  · intro x tm wr htm hx hv
    simp only [fillA, List.setIfInBounds_toArray, List.set_cons_zero, List.set_cons_succ] at htm
    subst htm
    have r12 := hv 12 (by decide)
    go_wp2_with fail
    go_ret
    exact ⟨_, rfl, r12, NW.out.trans hx⟩
end Go.Proofs.YtpijehaciomkhaaDoor
end
