/- THE DOCUMENT'S LAYER 2: Sum of a hasher. -/
import Derived.Test.YtpgdfboogjapeaaDoorShaR3
namespace Go.Proofs.YtpgdfboogjapeaaDoor
open Go.RowKit
set_option linter.unusedVariables false
set_option linter.unusedSimpArgs false

/-- A cut of a slice. -/
def cutV (A : Option Addr) (c lo hi : Nat) : Value := .slice (if c = lo then A else A.map (·.add lo)) (hi - lo) (c - lo)
theorem slice_cutV {P : Program} (t e : TypeId) (ht : P.underlying t = some (.slice e)) (hsz : ∀ w, (sizeOf e).run P w = .ok 1 w) (A : Option Addr) (n c lo hi : Nat) (zl zh : Int) (hl : zl = lo) (hh : zh = hi) (h1 : lo ≤ hi) (h2 : hi ≤ c) (w : World) :
    (Instr.sliceAt t (.slice A n c) (some (.int .i64 zl)) (some (.int .i64 zh)) none).run P w = .ok (cutV A c lo hi) w := by
  subst hl hh
  have e1 : (lo : Int) ≤ (hi : Int) := by omega
  have e2 : (hi : Int) ≤ (c : Int) := by omega
  unfold cutV
  simp [Instr.sliceAt, Instr.slice, Instr.sureAddr, run_underlying ht, Instr.sliceBounds, run_sliceBound, hsz, e1, e2, h1, h2]
theorem cutV_rd {w : World} {A : Option Addr} {c : Nat} {l : List UInt8} (ha : At w A l) (hc : l.length ≤ c) (hm : c ≤ maxLen) (lo hi : Nat) (h1 : lo ≤ hi) (h2 : hi ≤ l.length) : Rd w (cutV A c lo hi) ((l.drop lo).take (hi - lo)) := by
  unfold cutV
  split
  · have e : (l.drop lo).take (hi - lo) = [] := by rw [List.drop_of_length_le (by omega), List.take_nil]
    rw [e, show hi - lo = 0 by omega]
    exact Rd.none0 w _ _ (by omega)
  · exact Rd.cut (c := c - lo) ha (i := lo) (m := hi - lo) (by omega) (by omega) (by omega)

theorem rounds_succ' (s : St) (l : List UInt8) (n : Nat) : s.rounds l (n + 1) = (s.rounds l n).round ((l.drop (64 * n)).take 64) := rfl
theorem hashL_get (s : St) (i : Nat) (h : i < 32) : (hashL s)[i]'(by rw [hashL_length]; exact h) = UInt8.ofNat ((s.list.getD (i / 4) 0).toNat / 256 ^ (3 - i % 4)) := by
  obtain ⟨a, b, c, d, e, f, g, k⟩ := s
  rcases (by omega : i = 0 ∨ i = 1 ∨ i = 2 ∨ i = 3 ∨ i = 4 ∨ i = 5 ∨ i = 6 ∨ i = 7 ∨ i = 8 ∨ i = 9 ∨ i = 10 ∨ i = 11 ∨ i = 12 ∨ i = 13 ∨ i = 14 ∨ i = 15 ∨ i = 16 ∨ i = 17 ∨ i = 18 ∨ i = 19 ∨ i = 20 ∨ i = 21 ∨ i = 22 ∨ i = 23 ∨ i = 24 ∨ i = 25 ∨ i = 26 ∨ i = 27 ∨ i = 28 ∨ i = 29 ∨ i = 30 ∨ i = 31) with rfl | rfl | rfl | rfl | rfl | rfl | rfl | rfl | rfl | rfl | rfl | rfl | rfl | rfl | rfl | rfl | rfl | rfl | rfl | rfl | rfl | rfl | rfl | rfl | rfl | rfl | rfl | rfl | rfl | rfl | rfl | rfl <;> rfl
/-- So many bytes of a hash, and zeros. -/
def hashZ (H : List UInt8) (k : Nat) : List UInt8 := H.take k ++ List.replicate (32 - k) 0
theorem hashZ_zero (H : List UInt8) : hashZ H 0 = List.replicate 32 0 := by simp [hashZ]
theorem hashZ_all (H : List UInt8) (h : H.length = 32) : hashZ H 32 = H := by
  unfold hashZ
  rw [List.take_of_length_le (by omega)]
  simp
theorem hashZ_length (H : List UInt8) (k : Nat) (hk : k ≤ 32) (h : H.length = 32) : (hashZ H k).length = 32 := by
  unfold hashZ
  rw [List.length_append, List.length_take, List.length_replicate]; omega
theorem hashZ_next (H : List UInt8) (k : Nat) (b : UInt8) (hk : k < 32) (h : H.length = 32) (hb : H[k]? = some b) : (hashZ H k).set k b = hashZ H (k + 1) := by
  obtain ⟨hb1, rfl⟩ := List.getElem?_eq_some_iff.1 hb
  unfold hashZ
  rw [List.take_succ_eq_append_getElem (by omega), List.set_append_right _ _ (by rw [List.length_take]; omega)]
  rw [show k - (H.take k).length = 0 by rw [List.length_take]; omega, show 32 - k = (32 - (k + 1)) + 1 by omega, List.replicate_succ, List.set_cons_zero, List.append_assoc]
  rfl
/-- A byte of a word. -/
theorem word_byte (x : Int) (p d : Nat) (hq : (d : Int) = 24 - 8 * (p : Int)) (hp : p < 4) (h : Wd x) :
    x / 2 ^ d % 256 = ((UInt8.ofNat (x.toNat / 256 ^ (3 - p))).toNat : Int) := by
  obtain ⟨h0, h1⟩ := h
  obtain ⟨n, rfl⟩ := Int.eq_ofNat_of_zero_le h0
  have e : d = 8 * (3 - p) := by omega
  rw [e, Int.toNat_natCast]
  exact u8_shr' n _ _ rfl

set_option maxRecDepth 100000 in
set_option maxHeartbeats 2000000 in
theorem rsum_any (g : Nat) (vb : Value) (l : List UInt8) (w : World) (hg : Has w g) (hr : Rd w vb l) (hn : l.length ≤ 140737488354000) :
    Calls Tryd.prog 10 #[.pointer (some ⟨g, 0, none⟩), vb] w fun e w' => e = .returned (.agg (hcel (shaL l))) ∧ Nx w w' := by
  have HPAD := Lib.hid (rpadded_any vb l)
  have HRD := Lib.hid hr
  have HLN := Lib.hid hn
  have HPL := Lib.hid (padL_whole l)
  have HPB : Hid ((padL l).length ≤ 140737488355328) := Lib.hid (by rw [padL_length]; unfold gapN; omega)
  have HSH : Hid (shaL l = hashL (beginS.rounds (padL l) ((padL l).length / 64))) := Lib.hid rfl
  have HOK : Hid (∀ k, (beginS.rounds (padL l) k).ok) := Lib.hid fun k => St.ok.rounds begin_ok _ _
  have HG := Lib.hid hg
  obtain ⟨A0, c0, rfl, -, -, -⟩ := hr
  obtain ⟨hz, hzs⟩ := zero_of_info info_hash'
  obtain ⟨hz8, hzs8⟩ := zero_of_info info_w8
  clear hn hg
  have HGL : Hid (g < w.heap.size) := Lib.hid HG.out.lt
  have HB0 : Hid (beginS.rounds (padL l) 0 = beginS) := Lib.hid rfl
  have HR1 : Hid (∀ k, beginS.rounds (padL l) (k + 1) = (beginS.rounds (padL l) k).round (((padL l).drop (64 * k)).take 64)) := Lib.hid fun k => rfl
  have hzr : Hid ((List.replicate 32 (0 : UInt8)).length = 32) := Lib.hid List.length_replicate
  generalize hZZ : List.replicate 32 (0 : UInt8) = ZZ at *
  replace hZZ := Lib.hid hZZ
  generalize padL l = p at *
  generalize hSF : beginS.rounds p = SF at *
  clear hSF
  have h64 : ∀ B : St, (Tryd.prog.info? 34).map (·.size) = some (ints .u32 B.list).size := fun B => by rw [ints_size]; kernel_rfl
  replace h64 := Lib.hid h64
  have h640 : ∀ B : St, (ints .u32 [0, 0, 0, 0, 0, 0, 0, 0]).size = (ints .u32 B.list).size := fun B => by rw [ints_size, ints_size]; rfl
  replace h640 := Lib.hid h640
  go_enter Tryd.func10, Tryd.ntmps10
  go_wp2_with fail
  refine (HPAD.out _ (HRD.out.alloc _) (by have := HLN.out; omega)).mono ?_
  rintro e w1 ⟨v1, rfl, o1, n1⟩
  have N1 := Lib.hid (((Nx.refl w).alloc (.cells (hcel ZZ) 24)).trans n1)
  have R1 := (Row.new w (hcel ZZ) 24 _ rfl).nx n1
  have P1 := Lib.hid o1.rd
  clear o1 n1
  obtain ⟨A1, c1, rfl, hc1, hm1, ha1⟩ := P1.out
  have G1 := HG.out.nx N1.out
  have hcb := Lib.hid G1.begin
  go_wp2_with (first | (refine wpList_load_at rfl 34 (.tmp 14) rfl g 0 rfl (ints .u32 beginS.list) _ hcb.out Tryd.underlying34 rfl (h64.out beginS) ?_) | (refine wpList_store_row rfl 34 (.tmp 6) (.tmp 15) rfl w1.heap.size (ints .u32 beginS.list) rfl rfl 34 (ints .u32 [0, 0, 0, 0, 0, 0, 0, 0]) (Row.new _ _ _ _ rfl) (h64.out _) (h640.out _) (ints_one _ _) ?_))
  have NW := Lib.hid ((N1.out.alloc (.cells (ints .u32 [0, 0, 0, 0, 0, 0, 0, 0]) 34)).setRow (ints .u32 beginS.list) N1.out.size)
  have RW := (Row.new w1 (ints .u32 [0, 0, 0, 0, 0, 0, 0, 0]) 34 _ rfl).setRow (ints .u32 beginS.list)
  have hne : w.heap.size ≠ w1.heap.size := Nat.ne_of_lt R1.lt
  have RW' : Row ((w1.alloc (.cells (ints .u32 [0, 0, 0, 0, 0, 0, 0, 0]) 34)).setRow w1.heap.size (ints .u32 beginS.list)) w1.heap.size (ints .u32 (SF 0).list) 34 := by rw [HB0.out]; exact RW
  clear RW
  have RZ := (R1.alloc (.cells (ints .u32 [0, 0, 0, 0, 0, 0, 0, 0]) 34)).setRow_other (k := w1.heap.size) (ints .u32 beginS.list) hne
  have HG6 : Hid (w.heap.size ≤ w1.heap.size) := Lib.hid N1.out.size
  have NP : Hid (Nx w1 ((w1.alloc (.cells (ints .u32 [0, 0, 0, 0, 0, 0, 0, 0]) 34)).setRow w1.heap.size (ints .u32 beginS.list))) := Lib.hid (((Nx.refl w1).alloc _).setRow _ (Nat.le_refl _))
  have HP1 : Hid (∀ W, Nx w1 W → At W A1 p) := Lib.hid fun W h => ha1.nx h
  clear hcb G1 R1 N1 P1 ha1 HRD HPAD
  generalize ((w1.alloc (.cells (ints .u32 [0, 0, 0, 0, 0, 0, 0, 0]) 34)).setRow w1.heap.size (ints .u32 beginS.list)) = W at *
  replace hne := Lib.hid hne
  have hpl : p.length = 64 * (p.length / 64) := HPL.out.symm
  generalize hnb : p.length / 64 = nb at *
  replace hpl := Lib.hid hpl
  replace hnb := Lib.hid hnb
  generalize hPN : p.length = pn at *
  replace hPN := Lib.hid hPN
  have hpb : (pn : Int) ≤ 140737488355328 := by have := HPB.out; omega
  have HC1 := Lib.hid hc1
  have HM1 := Lib.hid hm1
  clear hc1 hm1
  generalize hg6 : w1.heap.size = g6 at *
  have HG61 : Hid (w1.heap.size ≤ g6) := Lib.hid (by rw [hg6]; exact Nat.le_refl _)
  clear hg6
  go_loopw [7] (fun i wr => ∃ k : Nat, k ≤ nb ∧ i = .int .i64 ((64 * k : Nat) : Int) ∧ Hid (Nx w wr) ∧ Hid (Nx w1 wr) ∧ Row wr g6 (ints .u32 (SF k).list) 34 ∧ Row wr w.heap.size (hcel ZZ) 24) (fun i _ => pn - (intOf i).toNat)
  case atStart => exact ⟨0, by omega, rfl, NW, NP, RW', RZ⟩
  case round =>
    clear NW NP RW' RZ
    obtain ⟨k, hk, rfl, HN, HN1, R6, R4⟩ := hrel
    by_cases hlt : k < nb
    · have hlt2 : ((64 * k : Nat) : Int) < (pn : Int) := by have := hpl.out; omega
      have hkk : 64 * k + 64 ≤ pn := by have := hpl.out; omega
      have HKK := Lib.hid hkk
      have hs64 : IntKind.i64.wrap (((64 * k : Nat) : Int) + 64) = ((64 * k + 64 : Nat) : Int) := by rw [IntWalk.i64_in _ (by omega)]; omega
      have HCUT := Lib.hid (fun W => slice_cutV (P := Tryd.prog) 22 5 Tryd.underlying22 Tryd.sizeOf5 A1 pn c1 (64 * k) (64 * k + 64) _ _ rfl rfl (by omega) (by have := HC1.out; omega) W)
      have HRC : Hid (∀ W, Nx w1 W → Rd W (cutV A1 c1 (64 * k) (64 * k + 64)) ((p.drop (64 * k)).take 64)) := Lib.hid fun W h => by
        have := cutV_rd (HP1.out W h) (c := c1) (by rw [hPN.out]; exact HC1.out) HM1.out (64 * k) (64 * k + 64) (by omega) (by rw [hPN.out]; exact hkk)
        rwa [Nat.add_sub_cancel_left] at this
      have HBL : Hid (((p.drop (64 * k)).take 64).length = 64) := Lib.hid (by rw [List.length_take, List.length_drop, hPN.out]; omega)
      have HSK := Lib.hid (HR1.out k)
      have HOKK := Lib.hid (HOK.out k)
      generalize (p.drop (64 * k)).take 64 = BL at *
      have HSR : Hid (∀ W, Nx w1 W → Calls Tryd.prog 32 #[.agg (ints .u32 (SF k).list), cutV A1 c1 (64 * k) (64 * k + 64), .agg (ints .u32 kL)] W fun e w' => e = .returned (.agg (ints .u32 (SF (k + 1)).list)) ∧ Nx W w') := Lib.hid fun W h => by
        rw [HSK.out]
        exact rround_any (SF k) BL _ W HOKK.out HBL.out (HRC.out W h)
      have hsl : (SF k).list.length = 8 := rfl
      generalize hS1 : SF (k + 1) = S1 at *
      generalize hS0 : SF k = S0 at *
      replace hS1 := Lib.hid hS1
      clear hS0 hsl
      go_wp2_with fail
      refine wp_region_nx 11 [[], [], [], [], [3], [1, 2, 4], [], [6], [7], [8], [0, 5, 9], [10, 10, 0, 1, 2, 3, 4, 5, 6, 7, 8, 9, 10]] [some 22, some 23, some 24, some 25, some 26, some 27, some 28, some 29, some 30, some 31, some 32]
        [.eq (.agg (ints .u32 S0.list)), .eq (.slice A1 pn c1), .eq (.int .i64 ((64 * k : Nat) : Int)), .eq (.int .i64 ((64 * k : Nat) : Int)), .eq (.int .i64 ((64 * k + 64 : Nat) : Int)), .eq (cutV A1 c1 (64 * k) (64 * k + 64)), .eq (.pointer (some ⟨g, 0, none⟩)), .eq (.pointer (some ⟨g, 0, none⟩)), .eq (.pointer (some ⟨g, 8, none⟩)), .eq (.agg (ints .u32 kL)), .eq (.agg (ints .u32 S1.list))]
        (by kernel_rfl) (by kernel_rfl) (hord_of (by decide)) (by kernel_rfl) (by decide) (by decide) (htail_of (by decide)) ?_ _ (by rfl) ?_
      · intro x tm W htm hx i hi hd K hK
        simp only [fillA, List.setIfInBounds_toArray, List.set_cons_zero, List.set_cons_succ] at htm
        subst htm
        have hcs : i = 0 ∨ i = 1 ∨ i = 2 ∨ i = 3 ∨ i = 4 ∨ i = 5 ∨ i = 6 ∨ i = 7 ∨ i = 8 ∨ i = 9 ∨ i = 10 := by omega
        clear hi
        rcases hcs with rfl | rfl | rfl | rfl | rfl | rfl | rfl | rfl | rfl | rfl | rfl
        · exact wpOp_of rfl rfl (wp_load_row_of (some 22) rfl 34 (.tmp 6) rfl g6 rfl 34 (ints .u32 S0.list) _ (R6.nx hx) Tryd.underlying34 rfl (h64.out S0) (hK _ _ rfl (Nx.refl _)))
        · exact wpOp_of rfl rfl (wp_val_of (some 23) rfl (.slice A1 pn c1) (by kernel_rfl) (hK _ _ rfl (Nx.refl _)))
        · exact wpOp_of rfl rfl (wp_val_of (some 24) rfl (.int .i64 ((64 * k : Nat) : Int)) (by kernel_rfl) (hK _ _ rfl (Nx.refl _)))
        · exact wpOp_of rfl rfl (wp_val_of (some 25) rfl (.int .i64 ((64 * k : Nat) : Int)) (by kernel_rfl) (hK _ _ rfl (Nx.refl _)))
        · have e3 : x 3 = .int .i64 ((64 * k : Nat) : Int) := hd 3 (by decide)
          generalize x 3 = y3 at e3 hK ⊢
          subst e3
          exact wpOp_of rfl rfl (wp_val_of (some 26) rfl (.int .i64 (IntKind.i64.wrap (((64 * k : Nat) : Int) + 64))) (by kernel_rfl) (hK _ _ (show _ = _ by rw [hs64]) (Nx.refl _)))
        · have e1 : x 1 = .slice A1 pn c1 := hd 1 (by decide)
          generalize x 1 = y1 at e1 hK ⊢
          subst e1
          have e2 : x 2 = .int .i64 ((64 * k : Nat) : Int) := hd 2 (by decide)
          generalize x 2 = y2 at e2 hK ⊢
          subst e2
          have e4 : x 4 = .int .i64 ((64 * k + 64 : Nat) : Int) := hd 4 (by decide)
          generalize x 4 = y4 at e4 hK ⊢
          subst e4
          exact wpOp_of rfl rfl (wp_slice_of (some 27) rfl 22 (.tmp 23) (some (.tmp 24)) (some (.tmp 26)) none rfl _ (HCUT.out W) (hK _ _ rfl (Nx.refl _)))
        · exact wpOp_of rfl rfl (wp_val_of (some 28) rfl (.pointer (some ⟨g, 0, none⟩)) (by kernel_rfl) (hK _ _ rfl (Nx.refl _)))
        · have e6 : x 6 = .pointer (some ⟨g, 0, none⟩) := hd 6 (by decide)
          generalize x 6 = y6 at e6 hK ⊢
          subst e6
          exact wpOp_of rfl rfl (wp_val_of (some 29) rfl (.pointer (some ⟨g, 0, none⟩)) (by kernel_rfl) (hK _ _ rfl (Nx.refl _)))
        · have e7 : x 7 = .pointer (some ⟨g, 0, none⟩) := hd 7 (by decide)
          generalize x 7 = y7 at e7 hK ⊢
          subst e7
          exact wpOp_of rfl rfl (wp_val_of (some 30) rfl (.pointer (some ⟨g, 8, none⟩)) (by kernel_rfl) (hK _ _ rfl (Nx.refl _)))
        · have e8 : x 8 = .pointer (some ⟨g, 8, none⟩) := hd 8 (by decide)
          generalize x 8 = y8 at e8 hK ⊢
          subst e8
          exact wpOp_of rfl rfl (wp_load_at (some 31) rfl 42 (.tmp 30) rfl g 8 rfl (ints .u32 kL) _ ((HG.out.nx (HN.out.trans hx)).k) Tryd.underlying42 rfl (by rw [ints_size]; kernel_rfl) (hK _ _ rfl (Nx.refl _)))
        · have e0 : x 0 = .agg (ints .u32 S0.list) := hd 0 (by decide)
          have e5 : x 5 = cutV A1 c1 (64 * k) (64 * k + 64) := hd 5 (by decide)
          have e9 : x 9 = .agg (ints .u32 kL) := hd 9 (by decide)
          refine wpOp_of rfl rfl (wp_callp_of (some 32) rfl 32 #[x 0, x 5, x 9] (by kernel_rfl) _ ?_ hK)
          rw [e0, e5, e9]
          exact (HSR.out _ (HN1.out.trans hx)).mono fun _ _ ⟨h1, h2⟩ => ⟨_, h1, rfl, h2⟩
      · intro x tm W htm hx hv
        simp only [fillA, List.setIfInBounds_toArray, List.set_cons_zero, List.set_cons_succ] at htm
        subst htm
        have e10 : x 10 = .agg (ints .u32 S1.list) := hv 10 (by decide)
        rw [e10]
        refine wpList_store_row rfl 34 (.tmp 6) (.tmp 32) rfl g6 (ints .u32 S1.list) rfl rfl 34 (ints .u32 S0.list) (R6.nx hx) (h64.out _) (by rw [ints_size, ints_size]; rfl) (ints_one _ _) ?_
        refine wpList_nil ?_
        have HNW := Lib.hid ((HN.out.trans hx).setRow (ints .u32 S1.list) HG6.out)
        have HN1W : Hid (Nx w1 (W.setRow g6 (ints .u32 S1.list))) := Lib.hid ((HN1.out.trans hx).setRow _ HG61.out)
        have R6W := (R6.nx hx).setRow (ints .u32 S1.list)
        have R4W := (R4.nx hx).setRow_other (k := g6) (ints .u32 S1.list) hne.out
        clear HN HN1 R6 R4
        generalize W.setRow g6 (ints .u32 S1.list) = W2 at *
        generalize x 0 = y0 at *
        generalize x 5 = y5 at *
        go_wp2_with fail
        go_roundw
        case rel => exact ⟨k + 1, by omega, by go_num, HNW, HN1W, by rw [hS1.out]; exact R6W, R4W⟩
        case measure => simp [intOf]; omega
    · obtain rfl : k = nb := by omega
      have hge : decide (64 * (k : Int) < (pn : Int)) = false := by have := hpl.out; exact decide_eq_false (by omega)
      rw [show ((64 * k : Nat) : Int) = 64 * (k : Int) by omega]
      have HHL : Hid ((shaL l).length = 32) := Lib.hid (shaL_length l)
      have HHG : Hid (∀ i, i < 32 → (shaL l)[i]? = some (UInt8.ofNat (((SF k).list.getD (i / 4) 0).toNat / 256 ^ (3 - i % 4)))) := Lib.hid fun i h => by
        rw [← hashL_get (SF k) i h, ← List.getElem?_eq_getElem, HSH.out]
      have HWD := Lib.hid (St.list_wd (HOK.out k))
      have HSL : Hid ((SF k).list.length = 8) := Lib.hid rfl
      clear HSH HB0 HR1 HOK HPL
      generalize (SF k).list = SL at *
      generalize hHE : shaL l = H at *
      replace hHE := Lib.hid hHE
      have hi1 : Hid ((Tryd.prog.info? 24).map (·.size) = some (hcel H).size) := Lib.hid (by rw [hcel_size, HHL.out]; exact hzs)
      have ho1 : Hid ((hcel ZZ).size = (hcel H).size) := Lib.hid (by rw [hcel_size, hcel_size, HHL.out, hzr.out])
      go_wp2
      have RH := Row.new wr (hcel ZZ) 24 _ rfl
      have hne8 := Lib.hid (Nat.ne_of_lt R6.lt)
      have hne4 := Lib.hid (Nat.ne_of_lt R4.lt)
      have R6' := R6.alloc (.cells (hcel ZZ) 24)
      have R4' := R4.alloc (.cells (hcel ZZ) 24)
      have NN := Lib.hid (HN.out.alloc (.cells (hcel ZZ) 24))
      have HG8 := Lib.hid HN.out.size
      replace hge := Lib.hid hge
      clear R6 R4 HN HN1
      generalize wr.alloc (.cells (hcel ZZ) 24) = W at *
      generalize wr.heap.size = g8 at *
      rw [← hZZ.out, ← hashZ_zero H] at RH
      go_loopw [9] (fun i wr => ∃ j : Nat, j ≤ 32 ∧ i = .int .i64 j ∧ Hid (Nx w wr) ∧ Row wr g8 (hcel (hashZ H j)) 24 ∧ Row wr g6 (ints .u32 SL) 34 ∧ Row wr w.heap.size (hcel ZZ) 24) (fun i _ => 32 - (intOf i).toNat)
      case atStart => exact ⟨0, by omega, rfl, NN, RH, R6', R4'⟩
      case round =>
        clear NN RH R6' R4'
        obtain ⟨j, hj, rfl, HN, R8, R6, R4⟩ := hrel
        by_cases hlt : j < 32
        · have hj32 : (j : Int) < 32 := by omega
          have hq4 : j / 4 < SL.length := by rw [HSL.out]; omega
          have c6 : wr.cell? ⟨g6, j / 4, none⟩ = some (.int .u32 (SL.getD (j / 4) 0)) := by
            rw [R6.cell (ints_get .u32 SL (j / 4) hq4), List.getD_eq_getElem?_getD, List.getElem?_eq_getElem hq4]; rfl
          have HW1 := Lib.hid (HWD.out (j / 4))
          have HJ := Lib.hid (HHG.out j hlt)
          have HNX := Lib.hid (hashZ_next H j _ hlt HHL.out HJ.out)
          have HZL := Lib.hid (hashZ_length H j hj HHL.out)
          have f8 := R8.frozen
          have hzl : j < (hashZ H j).length := by rw [HZL.out]; exact hlt
          obtain ⟨old, c8⟩ : ∃ old, wr.cell? ⟨g8, j, none⟩ = some (.int .u8 old) := ⟨_, R8.cell (hcel_get _ j hzl)⟩
          clear hzl
          obtain ⟨q, hq⟩ : ∃ q : Nat, j / 4 = q := ⟨_, rfl⟩
          obtain ⟨r, hr⟩ : ∃ r : Nat, j % 4 = r := ⟨_, rfl⟩
          rw [hq] at c6 HW1 HNX
          rw [hr] at HNX
          have hq1 : (j : Int) / 4 = (q : Int) := by omega
          have hr1 : (j : Int) % 4 = (r : Int) := by omega
          have hq8 : (q : Int) < 8 := by omega
          obtain ⟨d, hd⟩ : ∃ d : Nat, 24 - 8 * (r : Int) = (d : Int) := ⟨24 - 8 * r, by omega⟩
          have hd32 : (d : Int) < 32 := by omega
          have HB := Lib.hid (word_byte (SL.getD q 0) r d (by omega) (by omega) HW1.out)
          generalize SL.getD q 0 = x at *
          clear hq hr HJ HHG HWD hq4
          go_wp2
          go_roundw
          case rel =>
            refine ⟨j + 1, by omega, by go_num, HN.out.setAt _ HG8.out, ?_, R6.other _ _ _ hne8.out, R4.other _ _ _ hne4.out⟩
            rw [HB.out, ← HNX.out, ← hcel_set _ _ _ (by rw [HZL.out]; exact hlt)]
            exact R8.set j _
          case measure => simp [intOf]; omega
        · obtain rfl : j = 32 := by omega
          rw [hashZ_all H HHL.out] at R8
          have hl : w.heap.size ≤ w.heap.size := Nat.le_refl _
          clear HHG HWD
          go_wp2_with (first | (refine wpList_load_row rfl 24 (.tmp 8) rfl g8 rfl 24 (hcel H) (0, 0) _ R8 Tryd.underlying24 rfl hi1.out ?_) | (refine wpList_store_row rfl 24 (.tmp 4) (.tmp 50) rfl w.heap.size (hcel H) rfl rfl 24 (hcel ZZ) R4 hi1.out ho1.out (hcel_one _) ?_))
          exact bodyPost_ret (results_cell_row Tryd.results10 _ _ w.heap.size 24 (hcel H) (0, 0) _ rfl (R4.setRow _) Tryd.underlying24 rfl hi1.out) rfl ⟨by rw [hHE.out], HN.out.setRow _ hl⟩
end Go.Proofs.YtpgdfboogjapeaaDoor
