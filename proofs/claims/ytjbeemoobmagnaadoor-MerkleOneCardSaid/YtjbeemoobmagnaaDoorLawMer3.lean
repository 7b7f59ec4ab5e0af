/- LAYER 9: the walk of MerkleOne. -/
import Derived.Test.YtjbeemoobmagnaaDoorLawMer1
import Derived.Test.YtjbeemoobmagnaaDoorMerW
import Derived.Test.YtjbeemoobmagnaaDoorMer14
namespace Go.Proofs.YtjbeemoobmagnaaDoor
open Go Go.RowKit
set_option linter.unusedVariables false
set_option linter.unusedSimpArgs false
set_option linter.unusedVariables false
set_option linter.unusedSimpArgs false

theorem wpOp_skip {P : Program} {ops : Array Oper} {Q : Exit → Act → World → Prop} {i : Nat} {o : Oper} {K : Act → World → Prop} {a : Act} {w : World} (dst : Option Tmp) (ho : ops[i]? = some o) (hd : o.dst = dst) (hg : Region.wanted o (yielded ops a.tmps) = false) (h : K (a.put dst undef) w) : wpOp P ops Q i K a w := by
  unfold wpOp
  rw [ho]
  show if Region.wanted o (yielded ops a.tmps) = true then _ else _
  rw [if_neg (by rw [hg]; decide), hd]
  exact h
theorem set_self {l : Hs} {k : Nat} (hk : k < l.length) : l.set k (l.getD k []) = l := by
  rw [List.getD_eq_getElem?_getD, List.getElem?_eq_getElem hk]
  exact List.set_getElem_self hk
theorem set_other {l : Hs} {k : Nat} (hk : k < l.length) (h : List UInt8) (hne : h ≠ l.getD k []) : l ≠ l.set k h := fun e => hne (by
  have h1 : (l.set k h).getD k [] = h := by
    rw [List.getD_eq_getElem?_getD, List.getElem?_set_self hk]; rfl
  rw [← e] at h1
  exact h1.symm)
set_option maxRecDepth 100000 in
set_option maxHeartbeats 16000000 in
theorem merkleOne_law {w : World} (v0 : Value) (l0 : Hs) (h0 : RdE elH w v0 l0) (n : Int) (hn1 : -9223372036854775808 ≤ n) (hn2 : n ≤ 9223372036854775807) (h : List UInt8) (hh : h.length = 32) (hk : KIs w) :
    Calls Tryd.prog 10 #[v0, .int .i64 n, .agg (hcel h)] w fun e w' => e = .returned (.bool true) ∧ Nx w w' := by
  obtain ⟨hz, hzs⟩ := zero_of_info info_hash'
  change ∀ w, (zeroValue 30).run Tryd.prog w = .ok (.agg (hcel hZ)) w at hz
  have LZ := Lib.hid hZ_length
  generalize hZ = ZZ at *
  have LH := Lib.hid hh
  have iH := Lib.hid (hashsz h hh)
  have RB0 := Row.new w (hcel h) 30 _ rfl
  have N0 := Lib.hid ((Nx.refl w).alloc (.cells (hcel h) 30))
  have HK := Lib.hid (hk.nx N0.out)
  have R0 := h0.nx N0.out
  clear h0 hk hh
  obtain ⟨A0, c0, rfl, hc0, hm0, -⟩ := R0.h_parts
  have HR0 := Lib.hid R0
  have hc0' := Lib.hid hc0
  have hm0' := Lib.hid hm0
  clear R0 hc0 hm0
  go_enter Tryd.func10, Tryd.ntmps10
  go_upto_if 15 with fail
  go_cut [0] (fun sl wx => wx = w.alloc (.cells (hcel h) 30) ∧ Hid (RdE elH wx sl (l0.take 100)))
  case first =>
    by_cases hle : l0.length ≤ 100
    · have ht : decide ((100 : Int) < (l0.length : Int)) = false := by simp; omega
      have ht2 : decide (100 < l0.length) = false := by simp; omega
      go_wp2_with fail
      go_meet
      exact ⟨rfl, Lib.hid (by rw [List.take_of_length_le hle]; exact HR0.out)⟩
    · have ht : decide ((100 : Int) < (l0.length : Int)) = true := by simp; omega
      have ht2 : decide (100 < l0.length) = true := by simp; omega
      have hs := slice_to_k (P := Tryd.prog) 46 30 Tryd.underlying46 32 Tryd.sizeOf30 A0 l0.length c0 100 100 rfl (by have := hc0'.out; omega)
      go_wp2_with fail
      go_meet
      exact ⟨rfl, Lib.hid (HR0.out.pre 100 c0 (by omega) (by have := hc0'.out; omega) hm0'.out)⟩
  case rest =>
    obtain ⟨rfl, HR1⟩ := hcut
    clear HR0
    have HL1 := Lib.hid (take_len l0 100)
    generalize l0.take 100 = l at *
    generalize w.alloc (.cells (hcel h) 30) = wc at *
    clear hc0' hm0'
    obtain ⟨Al, cl, hvl, -, -, -, hcq⟩ := HR1.out.h_parts
    subst hvl
    have HL32 := Lib.hid HR1.out.h32
    have LRH := Lib.hid (rootH_length HL32.out)
    have C1 := Lib.hid (fun W (x : Nx wc W) => mroot_any _ l W (HR1.out.nx x) (by have := HL1.out; omega) (HK.out.nx x))
    have C8 := Lib.hid (fun W (x : Nx wc W) => mworks_any W (HK.out.nx x))
    cases hs : rootB l
    · rw [hs] at C1
      generalize rootH l = RH at *
      have iR := Lib.hid (hashsz RH LRH.out)
      have oR := Lib.hid (hashsame ZZ RH LZ.out LRH.out)
      clear hcq
      go_wp2_with fail
      refine (C1.out _ (Nx.refl wc)).mono ?_
      rintro e w3 ⟨rfl, n3⟩
      have Z3 := Row.new w3 (hcel ZZ) 30 _ rfl
      have N3 := (n3.alloc (.cells (hcel ZZ) 30)).setRow (g := w3.heap.size) (hcel RH) n3.size
      go_wp2_with (refine wpList_store_row rfl 30 (.tmp 7) (.tmp 21) rfl (w3.heap.size) (hcel RH) rfl rfl 30 (hcel ZZ) Z3 iR.out oR.out (hcel_one _) ?_)
      refine (C8.out _ N3).mono ?_
      rintro e w4 ⟨rfl, n4⟩
      go_wp2_with fail
      go_ret
      exact ⟨rfl, N0.out.trans (N3.trans n4)⟩
    · have hp := rootB_pos hs
      obtain ⟨N, hN⟩ : ∃ N : Nat, IntKind.u64.wrap n = (N : Int) := ⟨(n % 18446744073709551616).toNat, by rw [IntKind.wrap_u64]; omega⟩
      obtain ⟨k, hkk⟩ : ∃ k : Nat, N % l.length = k := ⟨_, rfl⟩
      have hkl : Hid (k < l.length) := Lib.hid (by rw [← hkk]; exact Nat.mod_lt _ hp)
      have hmx : max (l.length : Int) 1 = (l.length : Int) := by omega
      have hw1 : IntKind.u64.wrap (l.length : Int) = (l.length : Int) := by rw [IntKind.wrap_u64]; have := HL1.out; omega
      have hr1 : (N : Int).tmod (l.length : Int) = (k : Int) := by rw [← hkk]; rfl
      have hr2 : (N : Int) % (l.length : Int) = (k : Int) := by rw [← hkk]; rfl
      have hw2 : IntKind.i64.wrap (k : Int) = (k : Int) := IntWalk.i64_in _ (by have := hkl.out; have := HL1.out; omega)
      rw [hs] at C1
      clear hkk
      obtain ⟨fs, hF, hA⟩ := HR1.out
      replace hF := Lib.hid hF
      replace hA := Lib.hid hA
      have HM32 : Hid (H32 (l.set k h)) := Lib.hid (HL32.out.set _ _ LH.out)
      have HML : Hid ((l.set k h).length = l.length) := Lib.hid (by simp)
      have HSAME : Hid (h = l.getD k [] → rootH (l.set k h) = rootH l) := Lib.hid fun e => by rw [e, set_self hkl.out]
      have HCOL : Hid (h ≠ l.getD k [] → rootB (l.set k h) = true → rootH (l.set k h) = rootH l → colB l (l.set k h) = true) := Lib.hid fun e1 e2 e3 => one_root (by simp) HL32.out HM32.out (set_other hkl.out h e1) hs e2 e3.symm
      have HFUL : Hid (∀ full : List Value, full.take (l.length * 32) = hfs l → l.length * 32 ≤ full.length → full.take (k * 32) ++ bvs h ++ full.drop (k * 32 + 32) = hfs (l.set k h) ++ full.drop (l.length * 32)) := Lib.hid fun full htk2 hle => by
        rw [← hfs_set HL32.out k hkl.out h LH.out, ← htk2]
        have hlt2 : k * 32 + 32 ≤ l.length * 32 := by have := hkl.out; omega
        rw [List.take_take, Nat.min_eq_left (by omega), List.drop_take, List.append_assoc, List.append_assoc, List.append_assoc]
        congr 2
        have : full.drop (l.length * 32) = (full.drop (k * 32 + 32)).drop (l.length * 32 - (k * 32 + 32)) := by rw [List.drop_drop]; congr 1; omega
        rw [this, List.take_append_drop]
      generalize l.set k h = M at *
      have LSH := Lib.hid (rootH_length HM32.out)
      go_wp2_with fail
      refine (C1.out _ (Nx.refl wc)).mono ?_
      rintro e w3 ⟨rfl, n3⟩
      generalize hRH : rootH l = RH at *
      clear hRH
      have iR := Lib.hid (hashsz RH LRH.out)
      have oR := Lib.hid (hashsame ZZ RH LZ.out LRH.out)
      have Z3 := Row.new w3 (hcel ZZ) 30 _ rfl
      have N3 := (n3.alloc (.cells (hcel ZZ) 30)).setRow (g := w3.heap.size) (hcel RH) n3.size
      have R3 := Lib.hid (Z3.setRow (hcel RH))
      have B3 := Lib.hid (((RB0.nx n3).alloc (.cells (hcel ZZ) 30)).setRow_other (k := w3.heap.size) (hcel RH) (by have := (RB0.nx n3).lt; omega))
      replace hs := Lib.hid hs
      replace hp := Lib.hid hp
      have HLL : Hid (l.length ≤ 100) := HL1
      have RL3 := Lib.hid (hF.out.nx N3)
      have AL3 := Lib.hid (hA.out.nx N3)
      have hki : (k : Int) < (l.length : Int) := by have := hkl.out; omega
      have hki2 : ¬ (l.length : Int) ≤ (k : Int) := by omega
      have hcq2 := hcq hp.out
      clear hcq
      obtain ⟨b, o, rfl, hb, hcell⟩ := hcq2
      have CL : Hid (∀ W, Nx wc W → ∀ i u, (hcel (l.getD k []))[i]? = some u → W.cell? ⟨b, o + k * 32 + i, none⟩ = some u) := Lib.hid fun W h i u hu => (h.cell (p := ⟨b, o + k * 32 + i, none⟩) hb).trans (getD_cells hcell k hkl.out i u hu)
      have LX := Lib.hid (HL32.out.getD hkl.out)
      generalize l.getD k [] = X at *
      have iX := Lib.hid (hashsz X LX.out)
      clear hcell hb
      have HS3 : Hid (∀ W, Nx wc W → RdE elH W (.slice (some ⟨b, o, none⟩) l.length cl) l) := Lib.hid fun W x => HR1.out.nx x
      go_upto_if 24 with (refine wpList_store_row rfl 30 (.tmp 7) (.tmp 21) rfl (w3.heap.size) (hcel RH) rfl rfl 30 (hcel ZZ) Z3 iR.out oR.out (hcel_one _) ?_)
      have hs3 : ((w3.alloc (.cells (hcel ZZ) 30)).setRow w3.heap.size (hcel RH)).heap.size = w3.heap.size + 1 := by simp
      generalize hW3 : (w3.alloc (.cells (hcel ZZ) 30)).setRow w3.heap.size (hcel RH) = W3 at *
      have HLM : Hid (M.length = l.length) := HML
      generalize hln : l.length = ln at *
      replace hln := Lib.hid hln
      clear hW3 hs3
      replace N3 := Lib.hid N3
      have hwl : IntKind.u64.wrap (ln : Int) = (ln : Int) := hw1
      go_wp2_with (at_builtin; refine wpList_appE2 elH rfl (.tmp 26) (.tmp 27) 46 rfl (.agg (hcel (List.replicate 32 0))) 32 Tryd.underlying46 info_hash3 info_hash3z W3.heap.size (.slice none 0 0) (.slice (some ⟨b, o, none⟩) ln cl) [] l fs rfl rfl (OwnE.nil _ _) (by rw [hln.out]; exact RL3.out) AL3.out ?e1 ?e2 (Nat.le_refl _) ?_)
      case e1 => rw [hln.out]; have := HLL.out; simp only [List.length_nil]; omega
      case e2 => rw [hln.out]; have := HLL.out; simp only [List.length_nil, maxLen]; omega
      intro v5 w5 o5 b5 g5 e5
      have N35 : Hid (Nx W3 w5) := Lib.hid b5
      have N5 := Lib.hid (N3.out.trans N35.out)
      obtain ⟨gs, ⟨hl0, hor⟩, hall⟩ := o5
      obtain ⟨h32, rfl⟩ := allE_is hall
      rcases hor with ⟨he, hz0⟩ | ⟨g, c, full, he, hgB, hgr, hfc, hnc, hcm, htk⟩
      · exfalso
        have h1 : l.length = 0 := hz0
        have := hp.out
        have := hln.out
        omega
      · have he' : v5 = .slice (some ⟨g, 0, none⟩) l.length c := he
        rw [hln.out] at he'
        subst he'
        have hfull : full.length = c * 32 := hfc
        have hGc : ln ≤ c := by rw [← hln.out]; exact hnc
        have htk2 : full.take (ln * 32) = hfs l := by rw [← hln.out]; exact htk
        have RG : Row w5 g full.toArray 30 := hgr
        have hle : ln * 32 ≤ full.length := by omega
        have HSP := Lib.hid (HFUL.out full htk2 hle)
        have HST : Hid ((full.toArray.toList.take (k * 32) ++ (hcel h).toList ++ full.toArray.toList.drop (k * 32 + (hcel h).size)).toArray = (hfs M ++ full.drop (ln * 32)).toArray) := Lib.hid (by
          rw [← HSP.out, hcel_size, LH.out]
          simp [hcel])
        have HOW : Hid (∀ W, Row W g (hfs M ++ full.drop (ln * 32)).toArray 30 → RdE elH W (.slice (some ⟨g, 0, none⟩) ln c) M) := Lib.hid fun W hW => by
          refine OwnE.rd (B := W3.heap.size) ⟨hfs M, ⟨hfs_length HM32.out, .inr ⟨g, c, _, by rw [HLM.out], hgB, hW, ?_, by rw [HLM.out]; exact hGc, hcm, ?_⟩⟩, allE_hfs HM32.out _ _⟩
          · show (hfs M ++ full.drop (ln * 32)).length = c * 32
            rw [List.length_append, hfs_length HM32.out, HLM.out, List.length_drop]
            omega
          · show (hfs M ++ full.drop (ln * 32)).take (M.length * 32) = hfs M
            exact List.take_left' (hfs_length HM32.out)
        have HGB : Hid (W3.heap.size ≤ g) := Lib.hid hgB
        have B5 := B3.out.nx N35.out
        have R5 := Lib.hid (R3.out.nx N35.out)
        have HBI : Hid (w.heap.size < W3.heap.size) := Lib.hid B3.out.lt
        have HRI : Hid (w3.heap.size < W3.heap.size) := Lib.hid R3.out.lt
        have ROW6 := Lib.hid (RG.setRow (hfs M ++ full.drop (ln * 32)).toArray)
        have B6 := Lib.hid (B5.setRow_other (k := g) (hfs M ++ full.drop (ln * 32)).toArray (by have := HBI.out; have := HGB.out; omega))
        have R6 := Lib.hid (R5.out.setRow_other (k := g) (hfs M ++ full.drop (ln * 32)).toArray (by have := HRI.out; have := HGB.out; omega))
        have N6 := Lib.hid (N5.out.setRow (g := g) (hfs M ++ full.drop (ln * 32)).toArray (Nat.le_trans N3.out.size HGB.out))
        have HOLD : Hid (k * 32 + (hcel h).size ≤ full.toArray.size) := Lib.hid (by rw [hcel_size, LH.out, List.size_toArray]; have := hkl.out; omega)
        clear hl0 hall h32 he hgr hfc hnc hcm htk hfull hGc htk2 hle b5 g5 e5 HSP HFUL N35 hgB
        generalize (hfs M ++ full.drop (ln * 32)).toArray = FM at *
        generalize full.toArray = FU at *
        go_wp2_with (first | (refine wpList_load_row rfl 30 (.tmp 5) rfl (w.heap.size) rfl 30 (hcel h) (0, 0) _ B5 Tryd.underlying30 rfl iH.out ?_) | (refine wpList_store_part rfl 30 (.tmp 44) (.tmp 43) rfl g (k * 32) (hcel h) rfl rfl 30 FU RG iH.out HOLD.out (hcel_one _) ?_; rw [HST.out]))
        generalize w5.setRow g FM = w6 at *
        have RM6 := Lib.hid (HOW.out _ ROW6.out)
        clear ROW6 HST HOLD RG B5 R5 hN hmx hw1 hr1 hr2 hw2 hwl
        refine (mroot_any _ M _ (by exact RM6.out) (by have := HLM.out; have := HLL.out; omega) (HK.out.nx N6.out)).mono ?_
        rintro e w7 ⟨rfl, n7⟩
        have HRH : Hid (h = X → rootH M = RH) := HSAME
        have HCC : Hid (h ≠ X → rootB M = true → rootH M = RH → colB l M = true) := HCOL
        clear HSAME HCOL
        have COL := Lib.hid (fun W (r1 : RdE elH W (.slice (some ⟨b, o, none⟩) ln cl) l) (r2 : RdE elH W (.slice (some ⟨g, 0, none⟩) ln c) M) => mcoll_any _ _ l M W r1 r2 (by rw [HLM.out, hln.out]) (by have := hln.out; have := HLL.out; omega))
        generalize rootH M = SH at *
        generalize rootB M = SB at *
        generalize colB l M = CB at *
        have iS := Lib.hid (hashsz SH LSH.out)
        have oS := Lib.hid (hashsame ZZ SH LZ.out LSH.out)
        have Z7 := Row.new w7 (hcel ZZ) 30 _ rfl
        have S8 := Lib.hid (Z7.setRow (hcel SH))
        have N8 := Lib.hid (((N6.out.trans n7).alloc (.cells (hcel ZZ) 30)).setRow (g := w7.heap.size) (hcel SH) (N6.out.trans n7).size)
        have N78 := Lib.hid (((Nx.refl w7).alloc (.cells (hcel ZZ) 30)).setRow (g := w7.heap.size) (hcel SH) (Nat.le_refl _))
        have B8 := Lib.hid ((B6.out.nx n7).nx N78.out)
        have R8 := Lib.hid ((R6.out.nx n7).nx N78.out)
        have RM8 := Lib.hid ((RM6.out.nx n7).nx N78.out)
        have RL8 : Hid (RdE elH _ (.slice (some ⟨b, o, none⟩) ln cl) l) := Lib.hid (HS3.out _ N8.out)
        clear n7 N6 B6 R6 RM6 N78
        have EQK := Lib.hid (fun w => eq_hash2 h X LH.out LX.out w)
        have EQR := Lib.hid (fun w => eq_hash2 SH RH LSH.out LRH.out w)
        go_wp2_with (refine wpList_store_row rfl 30 (.tmp 11) (.tmp 48) rfl (w7.heap.size) (hcel SH) rfl rfl 30 (hcel ZZ) Z7 iS.out oS.out (hcel_one _) ?_)
        generalize (w7.alloc (.cells (hcel ZZ) 30)).setRow w7.heap.size (hcel SH) = W8 at *
        clear Z7
        cases SB
        · have HKL := hkl
          refine wp_region_nx 36 [[], [0], [1], [2], [2], [2], [4, 5, 2], [6, 2], [3, 7, 2], [8, 2, 2], [9], [9], [10, 11, 9], [9, 12, 2], [2, 13], [14, 9], [15], [15], [15], [17, 18, 15], [19, 15], [16, 20, 15], [21, 15, 15], [22], [22], [23, 24, 22], [25, 22, 22], [26], [26], [27, 28, 26, 26], [26, 29, 22], [22, 30, 15], [15, 31], [32, 29], [33, 33], [33, 34], [35, 34, 0, 1, 2, 3, 4, 5, 6, 7, 8, 9, 10, 11, 12, 13, 14, 15, 16, 17, 18, 19, 20, 21, 22, 23, 24, 25, 26, 27, 28, 29, 30, 31, 32, 33, 34, 35]] [some 50, some 51, some 52, some 53, some 54, some 55, some 56, some 57, some 58, some 59, some 60, some 61, some 62, some 63, some 64, some 65, some 66, some 67, some 68, some 69, some 70, some 71, some 72, some 73, some 74, some 75, some 76, some 77, some 78, some 79, some 80, some 81, some 82, some 83, some 84, some 85]
            [.eq (.bool false), .eq (.bool true), .eq (.bool true), .eq (undef), .eq (undef), .eq (undef), .eq (undef), .eq (undef), .eq (undef), .eq (undef), .eq (undef), .eq (undef), .eq (undef), .eq (undef), .eq (.bool true), .eq (.bool true), .eq (undef), .eq (undef), .eq (undef), .eq (undef), .eq (undef), .eq (undef), .eq (undef), .eq (undef), .eq (undef), .eq (undef), .eq (undef), .eq (undef), .eq (undef), .eq (undef), .eq (undef), .eq (undef), .eq (.bool true), .eq (.bool true), .eq (.bool true), .eq (.bool true)]
            (by kernel_rfl) (by kernel_rfl) (hord_of (by decide)) (by kernel_rfl) (by decide) (by decide) (htail_of (by decide)) ?_ _ (by rfl) ?_
          · intro x tm wr htm hx i hi hd K hK
            simp only [fillA, List.setIfInBounds_toArray, List.set_cons_zero, List.set_cons_succ] at htm
            subst htm
            have hcs : i = 0 ∨ i = 1 ∨ i = 2 ∨ i = 3 ∨ i = 4 ∨ i = 5 ∨ i = 6 ∨ i = 7 ∨ i = 8 ∨ i = 9 ∨ i = 10 ∨ i = 11 ∨ i = 12 ∨ i = 13 ∨ i = 14 ∨ i = 15 ∨ i = 16 ∨ i = 17 ∨ i = 18 ∨ i = 19 ∨ i = 20 ∨ i = 21 ∨ i = 22 ∨ i = 23 ∨ i = 24 ∨ i = 25 ∨ i = 26 ∨ i = 27 ∨ i = 28 ∨ i = 29 ∨ i = 30 ∨ i = 31 ∨ i = 32 ∨ i = 33 ∨ i = 34 ∨ i = 35 := by omega
            clear hi
            rcases hcs with rfl | rfl | rfl | rfl | rfl | rfl | rfl | rfl | rfl | rfl | rfl | rfl | rfl | rfl | rfl | rfl | rfl | rfl | rfl | rfl | rfl | rfl | rfl | rfl | rfl | rfl | rfl | rfl | rfl | rfl | rfl | rfl | rfl | rfl | rfl | rfl
            · exact wpOp_of rfl rfl (wp_val_of (some 50) rfl (.bool false) (by kernel_rfl) (hK _ _ rfl (Nx.refl _)))
            · have e0 : x 0 = .bool false := hd 0 (by decide)
              generalize x 0 = y0 at e0 hK ⊢
              subst e0
              exact wpOp_of rfl rfl (wp_val_of (some 51) rfl (.bool true) (by kernel_rfl) (hK _ _ rfl (Nx.refl _)))
            · have e1 : x 1 = .bool true := hd 1 (by decide)
              generalize x 1 = y1 at e1 hK ⊢
              subst e1
              exact wpOp_of rfl rfl (wp_val_of (some 52) rfl (.bool true) (by kernel_rfl) (hK _ _ rfl (Nx.refl _)))
            · have e2 : x 2 = .bool true := hd 2 (by decide)
              generalize x 2 = y2 at e2 hK ⊢
              subst e2
              exact wpOp_skip (some 53) rfl rfl (by rfl) (hK undef wr rfl (Nx.refl _))
            · have e2 : x 2 = .bool true := hd 2 (by decide)
              generalize x 2 = y2 at e2 hK ⊢
              subst e2
              exact wpOp_skip (some 54) rfl rfl (by rfl) (hK undef wr rfl (Nx.refl _))
            · have e2 : x 2 = .bool true := hd 2 (by decide)
              generalize x 2 = y2 at e2 hK ⊢
              subst e2
              exact wpOp_skip (some 55) rfl rfl (by rfl) (hK undef wr rfl (Nx.refl _))
            · have e2 : x 2 = .bool true := hd 2 (by decide)
              generalize x 2 = y2 at e2 hK ⊢
              subst e2
              exact wpOp_skip (some 56) rfl rfl (by rfl) (hK undef wr rfl (Nx.refl _))
            · have e2 : x 2 = .bool true := hd 2 (by decide)
              generalize x 2 = y2 at e2 hK ⊢
              subst e2
              exact wpOp_skip (some 57) rfl rfl (by rfl) (hK undef wr rfl (Nx.refl _))
            · have e2 : x 2 = .bool true := hd 2 (by decide)
              generalize x 2 = y2 at e2 hK ⊢
              subst e2
              exact wpOp_skip (some 58) rfl rfl (by rfl) (hK undef wr rfl (Nx.refl _))
            · have e2 : x 2 = .bool true := hd 2 (by decide)
              generalize x 2 = y2 at e2 hK ⊢
              subst e2
              exact wpOp_skip (some 59) rfl rfl (by rfl) (hK undef wr rfl (Nx.refl _))
            · have e9 : x 9 = undef := hd 9 (by decide)
              generalize x 9 = y9 at e9 hK ⊢
              subst e9
              exact wpOp_skip (some 60) rfl rfl (by rfl) (hK undef wr rfl (Nx.refl _))
            · have e9 : x 9 = undef := hd 9 (by decide)
              generalize x 9 = y9 at e9 hK ⊢
              subst e9
              exact wpOp_skip (some 61) rfl rfl (by rfl) (hK undef wr rfl (Nx.refl _))
            · have e9 : x 9 = undef := hd 9 (by decide)
              generalize x 9 = y9 at e9 hK ⊢
              subst e9
              exact wpOp_skip (some 62) rfl rfl (by rfl) (hK undef wr rfl (Nx.refl _))
            · have e2 : x 2 = .bool true := hd 2 (by decide)
              generalize x 2 = y2 at e2 hK ⊢
              subst e2
              exact wpOp_skip (some 63) rfl rfl (by rfl) (hK undef wr rfl (Nx.refl _))
            · have e2 : x 2 = .bool true := hd 2 (by decide)
              generalize x 2 = y2 at e2 hK ⊢
              subst e2
              exact wpOp_of rfl rfl (wp_val_of (some 64) rfl (.bool true) (by kernel_rfl) (hK _ _ rfl (Nx.refl _)))
            · have e14 : x 14 = .bool true := hd 14 (by decide)
              generalize x 14 = y14 at e14 hK ⊢
              subst e14
              exact wpOp_of rfl rfl (wp_val_of (some 65) rfl (.bool true) (by kernel_rfl) (hK _ _ rfl (Nx.refl _)))
            · have e15 : x 15 = .bool true := hd 15 (by decide)
              generalize x 15 = y15 at e15 hK ⊢
              subst e15
              exact wpOp_skip (some 66) rfl rfl (by rfl) (hK undef wr rfl (Nx.refl _))
            · have e15 : x 15 = .bool true := hd 15 (by decide)
              generalize x 15 = y15 at e15 hK ⊢
              subst e15
              exact wpOp_skip (some 67) rfl rfl (by rfl) (hK undef wr rfl (Nx.refl _))
            · have e15 : x 15 = .bool true := hd 15 (by decide)
              generalize x 15 = y15 at e15 hK ⊢
              subst e15
              exact wpOp_skip (some 68) rfl rfl (by rfl) (hK undef wr rfl (Nx.refl _))
            · have e15 : x 15 = .bool true := hd 15 (by decide)
              generalize x 15 = y15 at e15 hK ⊢
              subst e15
              exact wpOp_skip (some 69) rfl rfl (by rfl) (hK undef wr rfl (Nx.refl _))
            · have e15 : x 15 = .bool true := hd 15 (by decide)
              generalize x 15 = y15 at e15 hK ⊢
              subst e15
              exact wpOp_skip (some 70) rfl rfl (by rfl) (hK undef wr rfl (Nx.refl _))
            · have e15 : x 15 = .bool true := hd 15 (by decide)
              generalize x 15 = y15 at e15 hK ⊢
              subst e15
              exact wpOp_skip (some 71) rfl rfl (by rfl) (hK undef wr rfl (Nx.refl _))
            · have e15 : x 15 = .bool true := hd 15 (by decide)
              generalize x 15 = y15 at e15 hK ⊢
              subst e15
              exact wpOp_skip (some 72) rfl rfl (by rfl) (hK undef wr rfl (Nx.refl _))
            · have e22 : x 22 = undef := hd 22 (by decide)
              generalize x 22 = y22 at e22 hK ⊢
              subst e22
              exact wpOp_skip (some 73) rfl rfl (by rfl) (hK undef wr rfl (Nx.refl _))
            · have e22 : x 22 = undef := hd 22 (by decide)
              generalize x 22 = y22 at e22 hK ⊢
              subst e22
              exact wpOp_skip (some 74) rfl rfl (by rfl) (hK undef wr rfl (Nx.refl _))
            · have e22 : x 22 = undef := hd 22 (by decide)
              generalize x 22 = y22 at e22 hK ⊢
              subst e22
              exact wpOp_skip (some 75) rfl rfl (by rfl) (hK undef wr rfl (Nx.refl _))
            · have e22 : x 22 = undef := hd 22 (by decide)
              generalize x 22 = y22 at e22 hK ⊢
              subst e22
              exact wpOp_skip (some 76) rfl rfl (by rfl) (hK undef wr rfl (Nx.refl _))
            · have e26 : x 26 = undef := hd 26 (by decide)
              generalize x 26 = y26 at e26 hK ⊢
              subst e26
              exact wpOp_skip (some 77) rfl rfl (by rfl) (hK undef wr rfl (Nx.refl _))
            · have e26 : x 26 = undef := hd 26 (by decide)
              generalize x 26 = y26 at e26 hK ⊢
              subst e26
              exact wpOp_skip (some 78) rfl rfl (by rfl) (hK undef wr rfl (Nx.refl _))
            · have e26 : x 26 = undef := hd 26 (by decide)
              generalize x 26 = y26 at e26 hK ⊢
              subst e26
              exact wpOp_skip (some 79) rfl rfl (by rfl) (hK undef wr rfl (Nx.refl _))
            · have e22 : x 22 = undef := hd 22 (by decide)
              generalize x 22 = y22 at e22 hK ⊢
              subst e22
              exact wpOp_skip (some 80) rfl rfl (by rfl) (hK undef wr rfl (Nx.refl _))
            · have e15 : x 15 = .bool true := hd 15 (by decide)
              generalize x 15 = y15 at e15 hK ⊢
              subst e15
              exact wpOp_skip (some 81) rfl rfl (by rfl) (hK undef wr rfl (Nx.refl _))
            · have e15 : x 15 = .bool true := hd 15 (by decide)
              generalize x 15 = y15 at e15 hK ⊢
              subst e15
              exact wpOp_of rfl rfl (wp_val_of (some 82) rfl (.bool true) (by kernel_rfl) (hK _ _ rfl (Nx.refl _)))
            · have e32 : x 32 = .bool true := hd 32 (by decide)
              generalize x 32 = y32 at e32 hK ⊢
              subst e32
              exact wpOp_of rfl rfl (wp_val_of (some 83) rfl (.bool true) (by kernel_rfl) (hK _ _ rfl (Nx.refl _)))
            · have e33 : x 33 = .bool true := hd 33 (by decide)
              generalize x 33 = y33 at e33 hK ⊢
              subst e33
              refine wpOp_g rfl (by rfl) (wp_call_of (some 84) rfl 38 #[] (by kernel_rfl) (.bool true) ?_ (fun w' h => hK _ w' rfl h))
              exact C8.out wr (N8.out.trans hx)
            · have e33 : x 33 = .bool true := hd 33 (by decide)
              have e34 : x 34 = .bool true := hd 34 (by decide)
              generalize x 33 = y33 at e33 hK ⊢
              subst e33
              generalize x 34 = y34 at e34 hK ⊢
              subst e34
              exact wpOp_of rfl rfl (wp_val_of (some 85) rfl (.bool true) (by kernel_rfl) (hK _ _ rfl (Nx.refl _)))
          · intro x tm wr htm hx hv
            simp only [fillA, List.setIfInBounds_toArray, List.set_cons_zero, List.set_cons_succ] at htm
            subst htm
            have e35 : x 35 = .bool true := hv 35 (by decide)
            rw [e35]
            go_wp2_with fail
            go_ret
            exact ⟨rfl, N0.out.trans (N8.out.trans hx)⟩
        · by_cases hX : h = X
          · have hSR := HRH.out hX
            subst hX hSR
            have EK := Lib.hid (fun w => eq_hash' h LH.out w)
            have ER := Lib.hid (fun w => eq_hash' SH LSH.out w)
            have HKL := hkl
            refine wp_region_nx 36 [[], [0], [1], [2], [2], [2], [4, 5, 2], [6, 2], [3, 7, 2], [8, 2, 2], [9], [9], [10, 11, 9], [9, 12, 2], [2, 13], [14, 9], [15], [15], [15], [17, 18, 15], [19, 15], [16, 20, 15], [21, 15, 15], [22], [22], [23, 24, 22], [25, 22, 22], [26], [26], [27, 28, 26, 26], [26, 29, 22], [22, 30, 15], [15, 31], [32, 29], [33, 33], [33, 34], [35, 34, 0, 1, 2, 3, 4, 5, 6, 7, 8, 9, 10, 11, 12, 13, 14, 15, 16, 17, 18, 19, 20, 21, 22, 23, 24, 25, 26, 27, 28, 29, 30, 31, 32, 33, 34, 35]] [some 50, some 51, some 52, some 53, some 54, some 55, some 56, some 57, some 58, some 59, some 60, some 61, some 62, some 63, some 64, some 65, some 66, some 67, some 68, some 69, some 70, some 71, some 72, some 73, some 74, some 75, some 76, some 77, some 78, some 79, some 80, some 81, some 82, some 83, some 84, some 85]
              [.eq (.bool true), .eq (.bool false), .eq (.bool false), .eq (.agg (hcel h)), .eq (.slice (some ⟨b, o, none⟩) ln cl), .eq (.int .i64 (k : Int)), .eq (.pointer (some ⟨b, o + k * 32, none⟩)), .eq (.agg (hcel h)), .eq (.bool true), .eq (.bool true), .eq (.agg (hcel SH)), .eq (.agg (hcel SH)), .eq (.bool true), .eq (.bool true), .eq (.bool true), .eq (.bool true), .eq (undef), .eq (undef), .eq (undef), .eq (undef), .eq (undef), .eq (undef), .eq (undef), .eq (undef), .eq (undef), .eq (undef), .eq (undef), .eq (undef), .eq (undef), .eq (undef), .eq (undef), .eq (undef), .eq (.bool true), .eq (.bool true), .eq (.bool true), .eq (.bool true)]
              (by kernel_rfl) (by kernel_rfl) (hord_of (by decide)) (by kernel_rfl) (by decide) (by decide) (htail_of (by decide)) ?_ _ (by rfl) ?_
            · intro x tm wr htm hx i hi hd K hK
              simp only [fillA, List.setIfInBounds_toArray, List.set_cons_zero, List.set_cons_succ] at htm
              subst htm
              have hcs : i = 0 ∨ i = 1 ∨ i = 2 ∨ i = 3 ∨ i = 4 ∨ i = 5 ∨ i = 6 ∨ i = 7 ∨ i = 8 ∨ i = 9 ∨ i = 10 ∨ i = 11 ∨ i = 12 ∨ i = 13 ∨ i = 14 ∨ i = 15 ∨ i = 16 ∨ i = 17 ∨ i = 18 ∨ i = 19 ∨ i = 20 ∨ i = 21 ∨ i = 22 ∨ i = 23 ∨ i = 24 ∨ i = 25 ∨ i = 26 ∨ i = 27 ∨ i = 28 ∨ i = 29 ∨ i = 30 ∨ i = 31 ∨ i = 32 ∨ i = 33 ∨ i = 34 ∨ i = 35 := by omega
              clear hi
              rcases hcs with rfl | rfl | rfl | rfl | rfl | rfl | rfl | rfl | rfl | rfl | rfl | rfl | rfl | rfl | rfl | rfl | rfl | rfl | rfl | rfl | rfl | rfl | rfl | rfl | rfl | rfl | rfl | rfl | rfl | rfl | rfl | rfl | rfl | rfl | rfl | rfl
              · exact wpOp_of rfl rfl (wp_val_of (some 50) rfl (.bool true) (by kernel_rfl) (hK _ _ rfl (Nx.refl _)))
              · have e0 : x 0 = .bool true := hd 0 (by decide)
                generalize x 0 = y0 at e0 hK ⊢
                subst e0
                exact wpOp_of rfl rfl (wp_val_of (some 51) rfl (.bool false) (by kernel_rfl) (hK _ _ rfl (Nx.refl _)))
              · have e1 : x 1 = .bool false := hd 1 (by decide)
                generalize x 1 = y1 at e1 hK ⊢
                subst e1
                exact wpOp_of rfl rfl (wp_val_of (some 52) rfl (.bool false) (by kernel_rfl) (hK _ _ rfl (Nx.refl _)))
              · have e2 : x 2 = .bool false := hd 2 (by decide)
                generalize x 2 = y2 at e2 hK ⊢
                subst e2
                exact wpOp_g rfl (by rfl) (wp_load_row_of (some 53) rfl 30 (.tmp 5) rfl (w.heap.size) rfl 30 (hcel h) _ (B8.out.nx hx) Tryd.underlying30 rfl iH.out (hK _ _ rfl (Nx.refl _)))
              · have e2 : x 2 = .bool false := hd 2 (by decide)
                generalize x 2 = y2 at e2 hK ⊢
                subst e2
                exact wpOp_g rfl (by rfl) (wp_val_of (some 54) rfl (.slice (some ⟨b, o, none⟩) ln cl) (by kernel_rfl) (hK _ _ rfl (Nx.refl _)))
              · have e2 : x 2 = .bool false := hd 2 (by decide)
                generalize x 2 = y2 at e2 hK ⊢
                subst e2
                exact wpOp_g rfl (by rfl) (wp_val_of (some 55) rfl (.int .i64 (k : Int)) (by kernel_rfl) (hK _ _ rfl (Nx.refl _)))
              · have e4 : x 4 = .slice (some ⟨b, o, none⟩) ln cl := hd 4 (by decide)
                have e5 : x 5 = .int .i64 (k : Int) := hd 5 (by decide)
                have e2 : x 2 = .bool false := hd 2 (by decide)
                generalize x 4 = y4 at e4 hK ⊢
                subst e4
                generalize x 5 = y5 at e5 hK ⊢
                subst e5
                generalize x 2 = y2 at e2 hK ⊢
                subst e2
                exact wpOp_g rfl (by rfl) (wp_ix_of (some 56) rfl 46 30 (.tmp 54) (.tmp 55) rfl Tryd.underlying46 32 Tryd.sizeOf30 b o ln cl k (k : Int) rfl rfl rfl HKL.out (hK _ _ rfl (Nx.refl _)))
              · have e6 : x 6 = .pointer (some ⟨b, o + k * 32, none⟩) := hd 6 (by decide)
                have e2 : x 2 = .bool false := hd 2 (by decide)
                generalize x 6 = y6 at e6 hK ⊢
                subst e6
                generalize x 2 = y2 at e2 hK ⊢
                subst e2
                exact wpOp_g rfl (by rfl) (wp_load_at (some 57) rfl 30 (.tmp 56) rfl b (o + k * 32) rfl (hcel h) _ (CL.out wr (N8.out.trans hx)) Tryd.underlying30 rfl iH.out (hK _ _ rfl (Nx.refl _)))
              · have e3 : x 3 = .agg (hcel h) := hd 3 (by decide)
                have e7 : x 7 = .agg (hcel h) := hd 7 (by decide)
                have e2 : x 2 = .bool false := hd 2 (by decide)
                generalize x 3 = y3 at e3 hK ⊢
                subst e3
                generalize x 7 = y7 at e7 hK ⊢
                subst e7
                generalize x 2 = y2 at e2 hK ⊢
                subst e2
                exact wpOp_g rfl (by rfl) (wp_eql_of (some 58) rfl 30 _ _ _ rfl (hcel h) (hcel h) rfl rfl (by kernel_rfl) true (EK.out wr) (hK _ _ rfl (Nx.refl _)))
              · have e8 : x 8 = .bool true := hd 8 (by decide)
                have e2 : x 2 = .bool false := hd 2 (by decide)
                generalize x 8 = y8 at e8 hK ⊢
                subst e8
                generalize x 2 = y2 at e2 hK ⊢
                subst e2
                exact wpOp_g rfl (by rfl) (wp_val_of (some 59) rfl (.bool true) (by kernel_rfl) (hK _ _ rfl (Nx.refl _)))
              · have e9 : x 9 = .bool true := hd 9 (by decide)
                generalize x 9 = y9 at e9 hK ⊢
                subst e9
                exact wpOp_g rfl (by rfl) (wp_load_row_of (some 60) rfl 30 (.tmp 11) rfl (w7.heap.size) rfl 30 (hcel SH) _ (S8.out.nx hx) Tryd.underlying30 rfl iS.out (hK _ _ rfl (Nx.refl _)))
              · have e9 : x 9 = .bool true := hd 9 (by decide)
                generalize x 9 = y9 at e9 hK ⊢
                subst e9
                exact wpOp_g rfl (by rfl) (wp_load_row_of (some 61) rfl 30 (.tmp 7) rfl (w3.heap.size) rfl 30 (hcel SH) _ (R8.out.nx hx) Tryd.underlying30 rfl iS.out (hK _ _ rfl (Nx.refl _)))
              · have e10 : x 10 = .agg (hcel SH) := hd 10 (by decide)
                have e11 : x 11 = .agg (hcel SH) := hd 11 (by decide)
                have e9 : x 9 = .bool true := hd 9 (by decide)
                generalize x 10 = y10 at e10 hK ⊢
                subst e10
                generalize x 11 = y11 at e11 hK ⊢
                subst e11
                generalize x 9 = y9 at e9 hK ⊢
                subst e9
                exact wpOp_g rfl (by rfl) (wp_eql_of (some 62) rfl 30 _ _ _ rfl (hcel SH) (hcel SH) rfl rfl (by kernel_rfl) true (ER.out wr) (hK _ _ rfl (Nx.refl _)))
              · have e9 : x 9 = .bool true := hd 9 (by decide)
                have e12 : x 12 = .bool true := hd 12 (by decide)
                have e2 : x 2 = .bool false := hd 2 (by decide)
                generalize x 9 = y9 at e9 hK ⊢
                subst e9
                generalize x 12 = y12 at e12 hK ⊢
                subst e12
                generalize x 2 = y2 at e2 hK ⊢
                subst e2
                exact wpOp_g rfl (by rfl) (wp_val_of (some 63) rfl (.bool true) (by kernel_rfl) (hK _ _ rfl (Nx.refl _)))
              · have e2 : x 2 = .bool false := hd 2 (by decide)
                have e13 : x 13 = .bool true := hd 13 (by decide)
                generalize x 2 = y2 at e2 hK ⊢
                subst e2
                generalize x 13 = y13 at e13 hK ⊢
                subst e13
                exact wpOp_of rfl rfl (wp_val_of (some 64) rfl (.bool true) (by kernel_rfl) (hK _ _ rfl (Nx.refl _)))
              · have e14 : x 14 = .bool true := hd 14 (by decide)
                generalize x 14 = y14 at e14 hK ⊢
                subst e14
                exact wpOp_of rfl rfl (wp_val_of (some 65) rfl (.bool true) (by kernel_rfl) (hK _ _ rfl (Nx.refl _)))
              · have e15 : x 15 = .bool true := hd 15 (by decide)
                generalize x 15 = y15 at e15 hK ⊢
                subst e15
                exact wpOp_skip (some 66) rfl rfl (by rfl) (hK undef wr rfl (Nx.refl _))
              · have e15 : x 15 = .bool true := hd 15 (by decide)
                generalize x 15 = y15 at e15 hK ⊢
                subst e15
                exact wpOp_skip (some 67) rfl rfl (by rfl) (hK undef wr rfl (Nx.refl _))
              · have e15 : x 15 = .bool true := hd 15 (by decide)
                generalize x 15 = y15 at e15 hK ⊢
                subst e15
                exact wpOp_skip (some 68) rfl rfl (by rfl) (hK undef wr rfl (Nx.refl _))
              · have e15 : x 15 = .bool true := hd 15 (by decide)
                generalize x 15 = y15 at e15 hK ⊢
                subst e15
                exact wpOp_skip (some 69) rfl rfl (by rfl) (hK undef wr rfl (Nx.refl _))
              · have e15 : x 15 = .bool true := hd 15 (by decide)
                generalize x 15 = y15 at e15 hK ⊢
                subst e15
                exact wpOp_skip (some 70) rfl rfl (by rfl) (hK undef wr rfl (Nx.refl _))
              · have e15 : x 15 = .bool true := hd 15 (by decide)
                generalize x 15 = y15 at e15 hK ⊢
                subst e15
                exact wpOp_skip (some 71) rfl rfl (by rfl) (hK undef wr rfl (Nx.refl _))
              · have e15 : x 15 = .bool true := hd 15 (by decide)
                generalize x 15 = y15 at e15 hK ⊢
                subst e15
                exact wpOp_skip (some 72) rfl rfl (by rfl) (hK undef wr rfl (Nx.refl _))
              · have e22 : x 22 = undef := hd 22 (by decide)
                generalize x 22 = y22 at e22 hK ⊢
                subst e22
                exact wpOp_skip (some 73) rfl rfl (by rfl) (hK undef wr rfl (Nx.refl _))
              · have e22 : x 22 = undef := hd 22 (by decide)
                generalize x 22 = y22 at e22 hK ⊢
                subst e22
                exact wpOp_skip (some 74) rfl rfl (by rfl) (hK undef wr rfl (Nx.refl _))
              · have e22 : x 22 = undef := hd 22 (by decide)
                generalize x 22 = y22 at e22 hK ⊢
                subst e22
                exact wpOp_skip (some 75) rfl rfl (by rfl) (hK undef wr rfl (Nx.refl _))
              · have e22 : x 22 = undef := hd 22 (by decide)
                generalize x 22 = y22 at e22 hK ⊢
                subst e22
                exact wpOp_skip (some 76) rfl rfl (by rfl) (hK undef wr rfl (Nx.refl _))
              · have e26 : x 26 = undef := hd 26 (by decide)
                generalize x 26 = y26 at e26 hK ⊢
                subst e26
                exact wpOp_skip (some 77) rfl rfl (by rfl) (hK undef wr rfl (Nx.refl _))
              · have e26 : x 26 = undef := hd 26 (by decide)
                generalize x 26 = y26 at e26 hK ⊢
                subst e26
                exact wpOp_skip (some 78) rfl rfl (by rfl) (hK undef wr rfl (Nx.refl _))
              · have e26 : x 26 = undef := hd 26 (by decide)
                generalize x 26 = y26 at e26 hK ⊢
                subst e26
                exact wpOp_skip (some 79) rfl rfl (by rfl) (hK undef wr rfl (Nx.refl _))
              · have e22 : x 22 = undef := hd 22 (by decide)
                generalize x 22 = y22 at e22 hK ⊢
                subst e22
                exact wpOp_skip (some 80) rfl rfl (by rfl) (hK undef wr rfl (Nx.refl _))
              · have e15 : x 15 = .bool true := hd 15 (by decide)
                generalize x 15 = y15 at e15 hK ⊢
                subst e15
                exact wpOp_skip (some 81) rfl rfl (by rfl) (hK undef wr rfl (Nx.refl _))
              · have e15 : x 15 = .bool true := hd 15 (by decide)
                generalize x 15 = y15 at e15 hK ⊢
                subst e15
                exact wpOp_of rfl rfl (wp_val_of (some 82) rfl (.bool true) (by kernel_rfl) (hK _ _ rfl (Nx.refl _)))
              · have e32 : x 32 = .bool true := hd 32 (by decide)
                generalize x 32 = y32 at e32 hK ⊢
                subst e32
                exact wpOp_of rfl rfl (wp_val_of (some 83) rfl (.bool true) (by kernel_rfl) (hK _ _ rfl (Nx.refl _)))
              · have e33 : x 33 = .bool true := hd 33 (by decide)
                generalize x 33 = y33 at e33 hK ⊢
                subst e33
                refine wpOp_g rfl (by rfl) (wp_call_of (some 84) rfl 38 #[] (by kernel_rfl) (.bool true) ?_ (fun w' h => hK _ w' rfl h))
                exact C8.out wr (N8.out.trans hx)
              · have e33 : x 33 = .bool true := hd 33 (by decide)
                have e34 : x 34 = .bool true := hd 34 (by decide)
                generalize x 33 = y33 at e33 hK ⊢
                subst e33
                generalize x 34 = y34 at e34 hK ⊢
                subst e34
                exact wpOp_of rfl rfl (wp_val_of (some 85) rfl (.bool true) (by kernel_rfl) (hK _ _ rfl (Nx.refl _)))
            · intro x tm wr htm hx hv
              simp only [fillA, List.setIfInBounds_toArray, List.set_cons_zero, List.set_cons_succ] at htm
              subst htm
              have e35 : x 35 = .bool true := hv 35 (by decide)
              rw [e35]
              go_wp2_with fail
              go_ret
              exact ⟨rfl, N0.out.trans (N8.out.trans hx)⟩
          · rw [show decide (h = X) = false by simp [hX]] at EQK
            by_cases hR : SH = RH
            · have hCB : CB = true := HCC.out hX rfl hR
              subst hR hCB
              have ER := Lib.hid (fun w => eq_hash' SH LSH.out w)
              replace hX := Lib.hid hX
              have HKL := hkl
              refine wp_region_nx 36 [[], [0], [1], [2], [2], [2], [4, 5, 2], [6, 2], [3, 7, 2], [8, 2, 2], [9], [9], [10, 11, 9], [9, 12, 2], [2, 13], [14, 9], [15], [15], [15], [17, 18, 15], [19, 15], [16, 20, 15], [21, 15, 15], [22], [22], [23, 24, 22], [25, 22, 22], [26], [26], [27, 28, 26, 26], [26, 29, 22], [22, 30, 15], [15, 31], [32, 29], [33, 33], [33, 34], [35, 34, 0, 1, 2, 3, 4, 5, 6, 7, 8, 9, 10, 11, 12, 13, 14, 15, 16, 17, 18, 19, 20, 21, 22, 23, 24, 25, 26, 27, 28, 29, 30, 31, 32, 33, 34, 35]] [some 50, some 51, some 52, some 53, some 54, some 55, some 56, some 57, some 58, some 59, some 60, some 61, some 62, some 63, some 64, some 65, some 66, some 67, some 68, some 69, some 70, some 71, some 72, some 73, some 74, some 75, some 76, some 77, some 78, some 79, some 80, some 81, some 82, some 83, some 84, some 85]
                [.eq (.bool true), .eq (.bool false), .eq (.bool false), .eq (.agg (hcel h)), .eq (.slice (some ⟨b, o, none⟩) ln cl), .eq (.int .i64 (k : Int)), .eq (.pointer (some ⟨b, o + k * 32, none⟩)), .eq (.agg (hcel X)), .eq (.bool false), .eq (.bool false), .eq (undef), .eq (undef), .eq (undef), .eq (.bool false), .eq (.bool false), .eq (.bool false), .eq (.agg (hcel h)), .eq (.slice (some ⟨b, o, none⟩) ln cl), .eq (.int .i64 (k : Int)), .eq (.pointer (some ⟨b, o + k * 32, none⟩)), .eq (.agg (hcel X)), .eq (.bool true), .eq (.bool true), .eq (.agg (hcel SH)), .eq (.agg (hcel SH)), .eq (.bool false), .eq (.bool false), .eq (.slice (some ⟨b, o, none⟩) ln cl), .eq (.slice (some ⟨g, 0, none⟩) ln c), .eq (.bool true), .eq (.bool true), .eq (.bool true), .eq (.bool true), .eq (.bool true), .eq (.bool true), .eq (.bool true)]
                (by kernel_rfl) (by kernel_rfl) (hord_of (by decide)) (by kernel_rfl) (by decide) (by decide) (htail_of (by decide)) ?_ _ (by rfl) ?_
              · intro x tm wr htm hx i hi hd K hK
                simp only [fillA, List.setIfInBounds_toArray, List.set_cons_zero, List.set_cons_succ] at htm
                subst htm
                have hcs : i = 0 ∨ i = 1 ∨ i = 2 ∨ i = 3 ∨ i = 4 ∨ i = 5 ∨ i = 6 ∨ i = 7 ∨ i = 8 ∨ i = 9 ∨ i = 10 ∨ i = 11 ∨ i = 12 ∨ i = 13 ∨ i = 14 ∨ i = 15 ∨ i = 16 ∨ i = 17 ∨ i = 18 ∨ i = 19 ∨ i = 20 ∨ i = 21 ∨ i = 22 ∨ i = 23 ∨ i = 24 ∨ i = 25 ∨ i = 26 ∨ i = 27 ∨ i = 28 ∨ i = 29 ∨ i = 30 ∨ i = 31 ∨ i = 32 ∨ i = 33 ∨ i = 34 ∨ i = 35 := by omega
                clear hi
                rcases hcs with rfl | rfl | rfl | rfl | rfl | rfl | rfl | rfl | rfl | rfl | rfl | rfl | rfl | rfl | rfl | rfl | rfl | rfl | rfl | rfl | rfl | rfl | rfl | rfl | rfl | rfl | rfl | rfl | rfl | rfl | rfl | rfl | rfl | rfl | rfl | rfl
                · exact wpOp_of rfl rfl (wp_val_of (some 50) rfl (.bool true) (by kernel_rfl) (hK _ _ rfl (Nx.refl _)))
                · have e0 : x 0 = .bool true := hd 0 (by decide)
                  generalize x 0 = y0 at e0 hK ⊢
                  subst e0
                  exact wpOp_of rfl rfl (wp_val_of (some 51) rfl (.bool false) (by kernel_rfl) (hK _ _ rfl (Nx.refl _)))
                · have e1 : x 1 = .bool false := hd 1 (by decide)
                  generalize x 1 = y1 at e1 hK ⊢
                  subst e1
                  exact wpOp_of rfl rfl (wp_val_of (some 52) rfl (.bool false) (by kernel_rfl) (hK _ _ rfl (Nx.refl _)))
                · have e2 : x 2 = .bool false := hd 2 (by decide)
                  generalize x 2 = y2 at e2 hK ⊢
                  subst e2
                  exact wpOp_g rfl (by rfl) (wp_load_row_of (some 53) rfl 30 (.tmp 5) rfl (w.heap.size) rfl 30 (hcel h) _ (B8.out.nx hx) Tryd.underlying30 rfl iH.out (hK _ _ rfl (Nx.refl _)))
                · have e2 : x 2 = .bool false := hd 2 (by decide)
                  generalize x 2 = y2 at e2 hK ⊢
                  subst e2
                  exact wpOp_g rfl (by rfl) (wp_val_of (some 54) rfl (.slice (some ⟨b, o, none⟩) ln cl) (by kernel_rfl) (hK _ _ rfl (Nx.refl _)))
                · have e2 : x 2 = .bool false := hd 2 (by decide)
                  generalize x 2 = y2 at e2 hK ⊢
                  subst e2
                  exact wpOp_g rfl (by rfl) (wp_val_of (some 55) rfl (.int .i64 (k : Int)) (by kernel_rfl) (hK _ _ rfl (Nx.refl _)))
                · have e4 : x 4 = .slice (some ⟨b, o, none⟩) ln cl := hd 4 (by decide)
                  have e5 : x 5 = .int .i64 (k : Int) := hd 5 (by decide)
                  have e2 : x 2 = .bool false := hd 2 (by decide)
                  generalize x 4 = y4 at e4 hK ⊢
                  subst e4
                  generalize x 5 = y5 at e5 hK ⊢
                  subst e5
                  generalize x 2 = y2 at e2 hK ⊢
                  subst e2
                  exact wpOp_g rfl (by rfl) (wp_ix_of (some 56) rfl 46 30 (.tmp 54) (.tmp 55) rfl Tryd.underlying46 32 Tryd.sizeOf30 b o ln cl k (k : Int) rfl rfl rfl HKL.out (hK _ _ rfl (Nx.refl _)))
                · have e6 : x 6 = .pointer (some ⟨b, o + k * 32, none⟩) := hd 6 (by decide)
                  have e2 : x 2 = .bool false := hd 2 (by decide)
                  generalize x 6 = y6 at e6 hK ⊢
                  subst e6
                  generalize x 2 = y2 at e2 hK ⊢
                  subst e2
                  exact wpOp_g rfl (by rfl) (wp_load_at (some 57) rfl 30 (.tmp 56) rfl b (o + k * 32) rfl (hcel X) _ (CL.out wr (N8.out.trans hx)) Tryd.underlying30 rfl iX.out (hK _ _ rfl (Nx.refl _)))
                · have e3 : x 3 = .agg (hcel h) := hd 3 (by decide)
                  have e7 : x 7 = .agg (hcel X) := hd 7 (by decide)
                  have e2 : x 2 = .bool false := hd 2 (by decide)
                  generalize x 3 = y3 at e3 hK ⊢
                  subst e3
                  generalize x 7 = y7 at e7 hK ⊢
                  subst e7
                  generalize x 2 = y2 at e2 hK ⊢
                  subst e2
                  exact wpOp_g rfl (by rfl) (wp_eql_of (some 58) rfl 30 _ _ _ rfl (hcel h) (hcel X) rfl rfl (by kernel_rfl) false (EQK.out wr) (hK _ _ rfl (Nx.refl _)))
                · have e8 : x 8 = .bool false := hd 8 (by decide)
                  have e2 : x 2 = .bool false := hd 2 (by decide)
                  generalize x 8 = y8 at e8 hK ⊢
                  subst e8
                  generalize x 2 = y2 at e2 hK ⊢
                  subst e2
                  exact wpOp_g rfl (by rfl) (wp_val_of (some 59) rfl (.bool false) (by kernel_rfl) (hK _ _ rfl (Nx.refl _)))
                · have e9 : x 9 = .bool false := hd 9 (by decide)
                  generalize x 9 = y9 at e9 hK ⊢
                  subst e9
                  exact wpOp_skip (some 60) rfl rfl (by rfl) (hK undef wr rfl (Nx.refl _))
                · have e9 : x 9 = .bool false := hd 9 (by decide)
                  generalize x 9 = y9 at e9 hK ⊢
                  subst e9
                  exact wpOp_skip (some 61) rfl rfl (by rfl) (hK undef wr rfl (Nx.refl _))
                · have e9 : x 9 = .bool false := hd 9 (by decide)
                  generalize x 9 = y9 at e9 hK ⊢
                  subst e9
                  exact wpOp_skip (some 62) rfl rfl (by rfl) (hK undef wr rfl (Nx.refl _))
                · have e9 : x 9 = .bool false := hd 9 (by decide)
                  have e2 : x 2 = .bool false := hd 2 (by decide)
                  generalize x 9 = y9 at e9 hK ⊢
                  subst e9
                  generalize x 2 = y2 at e2 hK ⊢
                  subst e2
                  exact wpOp_g rfl (by rfl) (wp_val_of (some 63) rfl (.bool false) (by kernel_rfl) (hK _ _ rfl (Nx.refl _)))
                · have e2 : x 2 = .bool false := hd 2 (by decide)
                  have e13 : x 13 = .bool false := hd 13 (by decide)
                  generalize x 2 = y2 at e2 hK ⊢
                  subst e2
                  generalize x 13 = y13 at e13 hK ⊢
                  subst e13
                  exact wpOp_of rfl rfl (wp_val_of (some 64) rfl (.bool false) (by kernel_rfl) (hK _ _ rfl (Nx.refl _)))
                · have e14 : x 14 = .bool false := hd 14 (by decide)
                  generalize x 14 = y14 at e14 hK ⊢
                  subst e14
                  exact wpOp_of rfl rfl (wp_val_of (some 65) rfl (.bool false) (by kernel_rfl) (hK _ _ rfl (Nx.refl _)))
                · have e15 : x 15 = .bool false := hd 15 (by decide)
                  generalize x 15 = y15 at e15 hK ⊢
                  subst e15
                  exact wpOp_g rfl (by rfl) (wp_load_row_of (some 66) rfl 30 (.tmp 5) rfl (w.heap.size) rfl 30 (hcel h) _ (B8.out.nx hx) Tryd.underlying30 rfl iH.out (hK _ _ rfl (Nx.refl _)))
                · have e15 : x 15 = .bool false := hd 15 (by decide)
                  generalize x 15 = y15 at e15 hK ⊢
                  subst e15
                  exact wpOp_g rfl (by rfl) (wp_val_of (some 67) rfl (.slice (some ⟨b, o, none⟩) ln cl) (by kernel_rfl) (hK _ _ rfl (Nx.refl _)))
                · have e15 : x 15 = .bool false := hd 15 (by decide)
                  generalize x 15 = y15 at e15 hK ⊢
                  subst e15
                  exact wpOp_g rfl (by rfl) (wp_val_of (some 68) rfl (.int .i64 (k : Int)) (by kernel_rfl) (hK _ _ rfl (Nx.refl _)))
                · have e17 : x 17 = .slice (some ⟨b, o, none⟩) ln cl := hd 17 (by decide)
                  have e18 : x 18 = .int .i64 (k : Int) := hd 18 (by decide)
                  have e15 : x 15 = .bool false := hd 15 (by decide)
                  generalize x 17 = y17 at e17 hK ⊢
                  subst e17
                  generalize x 18 = y18 at e18 hK ⊢
                  subst e18
                  generalize x 15 = y15 at e15 hK ⊢
                  subst e15
                  exact wpOp_g rfl (by rfl) (wp_ix_of (some 69) rfl 46 30 (.tmp 67) (.tmp 68) rfl Tryd.underlying46 32 Tryd.sizeOf30 b o ln cl k (k : Int) rfl rfl rfl HKL.out (hK _ _ rfl (Nx.refl _)))
                · have e19 : x 19 = .pointer (some ⟨b, o + k * 32, none⟩) := hd 19 (by decide)
                  have e15 : x 15 = .bool false := hd 15 (by decide)
                  generalize x 19 = y19 at e19 hK ⊢
                  subst e19
                  generalize x 15 = y15 at e15 hK ⊢
                  subst e15
                  exact wpOp_g rfl (by rfl) (wp_load_at (some 70) rfl 30 (.tmp 69) rfl b (o + k * 32) rfl (hcel X) _ (CL.out wr (N8.out.trans hx)) Tryd.underlying30 rfl iX.out (hK _ _ rfl (Nx.refl _)))
                · have e16 : x 16 = .agg (hcel h) := hd 16 (by decide)
                  have e20 : x 20 = .agg (hcel X) := hd 20 (by decide)
                  have e15 : x 15 = .bool false := hd 15 (by decide)
                  generalize x 16 = y16 at e16 hK ⊢
                  subst e16
                  generalize x 20 = y20 at e20 hK ⊢
                  subst e20
                  generalize x 15 = y15 at e15 hK ⊢
                  subst e15
                  exact wpOp_g rfl (by rfl) (wp_neq_of (some 71) rfl 30 _ _ _ rfl (hcel h) (hcel X) rfl rfl (by kernel_rfl) false (EQK.out wr) (hK _ _ rfl (Nx.refl _)))
                · have e21 : x 21 = .bool true := hd 21 (by decide)
                  have e15 : x 15 = .bool false := hd 15 (by decide)
                  generalize x 21 = y21 at e21 hK ⊢
                  subst e21
                  generalize x 15 = y15 at e15 hK ⊢
                  subst e15
                  exact wpOp_g rfl (by rfl) (wp_val_of (some 72) rfl (.bool true) (by kernel_rfl) (hK _ _ rfl (Nx.refl _)))
                · have e22 : x 22 = .bool true := hd 22 (by decide)
                  generalize x 22 = y22 at e22 hK ⊢
                  subst e22
                  exact wpOp_g rfl (by rfl) (wp_load_row_of (some 73) rfl 30 (.tmp 11) rfl (w7.heap.size) rfl 30 (hcel SH) _ (S8.out.nx hx) Tryd.underlying30 rfl iS.out (hK _ _ rfl (Nx.refl _)))
                · have e22 : x 22 = .bool true := hd 22 (by decide)
                  generalize x 22 = y22 at e22 hK ⊢
                  subst e22
                  exact wpOp_g rfl (by rfl) (wp_load_row_of (some 74) rfl 30 (.tmp 7) rfl (w3.heap.size) rfl 30 (hcel SH) _ (R8.out.nx hx) Tryd.underlying30 rfl iS.out (hK _ _ rfl (Nx.refl _)))
                · have e23 : x 23 = .agg (hcel SH) := hd 23 (by decide)
                  have e24 : x 24 = .agg (hcel SH) := hd 24 (by decide)
                  have e22 : x 22 = .bool true := hd 22 (by decide)
                  generalize x 23 = y23 at e23 hK ⊢
                  subst e23
                  generalize x 24 = y24 at e24 hK ⊢
                  subst e24
                  generalize x 22 = y22 at e22 hK ⊢
                  subst e22
                  exact wpOp_g rfl (by rfl) (wp_neq_of (some 75) rfl 30 _ _ _ rfl (hcel SH) (hcel SH) rfl rfl (by kernel_rfl) true (ER.out wr) (hK _ _ rfl (Nx.refl _)))
                · have e25 : x 25 = .bool false := hd 25 (by decide)
                  have e22 : x 22 = .bool true := hd 22 (by decide)
                  generalize x 25 = y25 at e25 hK ⊢
                  subst e25
                  generalize x 22 = y22 at e22 hK ⊢
                  subst e22
                  exact wpOp_g rfl (by rfl) (wp_val_of (some 76) rfl (.bool false) (by kernel_rfl) (hK _ _ rfl (Nx.refl _)))
                · have e26 : x 26 = .bool false := hd 26 (by decide)
                  generalize x 26 = y26 at e26 hK ⊢
                  subst e26
                  exact wpOp_g rfl (by rfl) (wp_val_of (some 77) rfl (.slice (some ⟨b, o, none⟩) ln cl) (by kernel_rfl) (hK _ _ rfl (Nx.refl _)))
                · have e26 : x 26 = .bool false := hd 26 (by decide)
                  generalize x 26 = y26 at e26 hK ⊢
                  subst e26
                  exact wpOp_g rfl (by rfl) (wp_val_of (some 78) rfl (.slice (some ⟨g, 0, none⟩) ln c) (by kernel_rfl) (hK _ _ rfl (Nx.refl _)))
                · have e27 : x 27 = .slice (some ⟨b, o, none⟩) ln cl := hd 27 (by decide)
                  have e28 : x 28 = .slice (some ⟨g, 0, none⟩) ln c := hd 28 (by decide)
                  have e26 : x 26 = .bool false := hd 26 (by decide)
                  generalize x 27 = y27 at e27 hK ⊢
                  subst e27
                  generalize x 28 = y28 at e28 hK ⊢
                  subst e28
                  generalize x 26 = y26 at e26 hK ⊢
                  subst e26
                  refine wpOp_g rfl (by rfl) (wp_call_of (some 79) rfl 39 #[(.slice (some ⟨b, o, none⟩) ln cl), (.slice (some ⟨g, 0, none⟩) ln c)] (by kernel_rfl) (.bool true) ?_ (fun w' h => hK _ w' rfl h))
                  exact COL.out wr (RL8.out.nx hx) (RM8.out.nx hx)
                · have e26 : x 26 = .bool false := hd 26 (by decide)
                  have e29 : x 29 = .bool true := hd 29 (by decide)
                  have e22 : x 22 = .bool true := hd 22 (by decide)
                  generalize x 26 = y26 at e26 hK ⊢
                  subst e26
                  generalize x 29 = y29 at e29 hK ⊢
                  subst e29
                  generalize x 22 = y22 at e22 hK ⊢
                  subst e22
                  exact wpOp_g rfl (by rfl) (wp_val_of (some 80) rfl (.bool true) (by kernel_rfl) (hK _ _ rfl (Nx.refl _)))
                · have e22 : x 22 = .bool true := hd 22 (by decide)
                  have e30 : x 30 = .bool true := hd 30 (by decide)
                  have e15 : x 15 = .bool false := hd 15 (by decide)
                  generalize x 22 = y22 at e22 hK ⊢
                  subst e22
                  generalize x 30 = y30 at e30 hK ⊢
                  subst e30
                  generalize x 15 = y15 at e15 hK ⊢
                  subst e15
                  exact wpOp_g rfl (by rfl) (wp_val_of (some 81) rfl (.bool true) (by kernel_rfl) (hK _ _ rfl (Nx.refl _)))
                · have e15 : x 15 = .bool false := hd 15 (by decide)
                  have e31 : x 31 = .bool true := hd 31 (by decide)
                  generalize x 15 = y15 at e15 hK ⊢
                  subst e15
                  generalize x 31 = y31 at e31 hK ⊢
                  subst e31
                  exact wpOp_of rfl rfl (wp_val_of (some 82) rfl (.bool true) (by kernel_rfl) (hK _ _ rfl (Nx.refl _)))
                · have e32 : x 32 = .bool true := hd 32 (by decide)
                  generalize x 32 = y32 at e32 hK ⊢
                  subst e32
                  exact wpOp_of rfl rfl (wp_val_of (some 83) rfl (.bool true) (by kernel_rfl) (hK _ _ rfl (Nx.refl _)))
                · have e33 : x 33 = .bool true := hd 33 (by decide)
                  generalize x 33 = y33 at e33 hK ⊢
                  subst e33
                  refine wpOp_g rfl (by rfl) (wp_call_of (some 84) rfl 38 #[] (by kernel_rfl) (.bool true) ?_ (fun w' h => hK _ w' rfl h))
                  exact C8.out wr (N8.out.trans hx)
                · have e33 : x 33 = .bool true := hd 33 (by decide)
                  have e34 : x 34 = .bool true := hd 34 (by decide)
                  generalize x 33 = y33 at e33 hK ⊢
                  subst e33
                  generalize x 34 = y34 at e34 hK ⊢
                  subst e34
                  exact wpOp_of rfl rfl (wp_val_of (some 85) rfl (.bool true) (by kernel_rfl) (hK _ _ rfl (Nx.refl _)))
              · intro x tm wr htm hx hv
                simp only [fillA, List.setIfInBounds_toArray, List.set_cons_zero, List.set_cons_succ] at htm
                subst htm
                have e35 : x 35 = .bool true := hv 35 (by decide)
                rw [e35]
                go_wp2_with fail
                go_ret
                exact ⟨rfl, N0.out.trans (N8.out.trans hx)⟩
            · rw [show decide (SH = RH) = false by simp [hR]] at EQR
              replace hX := Lib.hid hX
              replace hR := Lib.hid hR
              have HKL := hkl
              refine wp_region_nx 36 [[], [0], [1], [2], [2], [2], [4, 5, 2], [6, 2], [3, 7, 2], [8, 2, 2], [9], [9], [10, 11, 9], [9, 12, 2], [2, 13], [14, 9], [15], [15], [15], [17, 18, 15], [19, 15], [16, 20, 15], [21, 15, 15], [22], [22], [23, 24, 22], [25, 22, 22], [26], [26], [27, 28, 26, 26], [26, 29, 22], [22, 30, 15], [15, 31], [32, 29], [33, 33], [33, 34], [35, 34, 0, 1, 2, 3, 4, 5, 6, 7, 8, 9, 10, 11, 12, 13, 14, 15, 16, 17, 18, 19, 20, 21, 22, 23, 24, 25, 26, 27, 28, 29, 30, 31, 32, 33, 34, 35]] [some 50, some 51, some 52, some 53, some 54, some 55, some 56, some 57, some 58, some 59, some 60, some 61, some 62, some 63, some 64, some 65, some 66, some 67, some 68, some 69, some 70, some 71, some 72, some 73, some 74, some 75, some 76, some 77, some 78, some 79, some 80, some 81, some 82, some 83, some 84, some 85]
                [.eq (.bool true), .eq (.bool false), .eq (.bool false), .eq (.agg (hcel h)), .eq (.slice (some ⟨b, o, none⟩) ln cl), .eq (.int .i64 (k : Int)), .eq (.pointer (some ⟨b, o + k * 32, none⟩)), .eq (.agg (hcel X)), .eq (.bool false), .eq (.bool false), .eq (undef), .eq (undef), .eq (undef), .eq (.bool false), .eq (.bool false), .eq (.bool false), .eq (.agg (hcel h)), .eq (.slice (some ⟨b, o, none⟩) ln cl), .eq (.int .i64 (k : Int)), .eq (.pointer (some ⟨b, o + k * 32, none⟩)), .eq (.agg (hcel X)), .eq (.bool true), .eq (.bool true), .eq (.agg (hcel SH)), .eq (.agg (hcel RH)), .eq (.bool true), .eq (.bool true), .eq (undef), .eq (undef), .eq (undef), .eq (.bool true), .eq (.bool true), .eq (.bool true), .eq (.bool true), .eq (.bool true), .eq (.bool true)]
                (by kernel_rfl) (by kernel_rfl) (hord_of (by decide)) (by kernel_rfl) (by decide) (by decide) (htail_of (by decide)) ?_ _ (by rfl) ?_
              · intro x tm wr htm hx i hi hd K hK
                simp only [fillA, List.setIfInBounds_toArray, List.set_cons_zero, List.set_cons_succ] at htm
                subst htm
                have hcs : i = 0 ∨ i = 1 ∨ i = 2 ∨ i = 3 ∨ i = 4 ∨ i = 5 ∨ i = 6 ∨ i = 7 ∨ i = 8 ∨ i = 9 ∨ i = 10 ∨ i = 11 ∨ i = 12 ∨ i = 13 ∨ i = 14 ∨ i = 15 ∨ i = 16 ∨ i = 17 ∨ i = 18 ∨ i = 19 ∨ i = 20 ∨ i = 21 ∨ i = 22 ∨ i = 23 ∨ i = 24 ∨ i = 25 ∨ i = 26 ∨ i = 27 ∨ i = 28 ∨ i = 29 ∨ i = 30 ∨ i = 31 ∨ i = 32 ∨ i = 33 ∨ i = 34 ∨ i = 35 := by omega
                clear hi
                rcases hcs with rfl | rfl | rfl | rfl | rfl | rfl | rfl | rfl | rfl | rfl | rfl | rfl | rfl | rfl | rfl | rfl | rfl | rfl | rfl | rfl | rfl | rfl | rfl | rfl | rfl | rfl | rfl | rfl | rfl | rfl | rfl | rfl | rfl | rfl | rfl | rfl
                · exact wpOp_of rfl rfl (wp_val_of (some 50) rfl (.bool true) (by kernel_rfl) (hK _ _ rfl (Nx.refl _)))
                · have e0 : x 0 = .bool true := hd 0 (by decide)
                  generalize x 0 = y0 at e0 hK ⊢
                  subst e0
                  exact wpOp_of rfl rfl (wp_val_of (some 51) rfl (.bool false) (by kernel_rfl) (hK _ _ rfl (Nx.refl _)))
                · have e1 : x 1 = .bool false := hd 1 (by decide)
                  generalize x 1 = y1 at e1 hK ⊢
                  subst e1
                  exact wpOp_of rfl rfl (wp_val_of (some 52) rfl (.bool false) (by kernel_rfl) (hK _ _ rfl (Nx.refl _)))
                · have e2 : x 2 = .bool false := hd 2 (by decide)
                  generalize x 2 = y2 at e2 hK ⊢
                  subst e2
                  exact wpOp_g rfl (by rfl) (wp_load_row_of (some 53) rfl 30 (.tmp 5) rfl (w.heap.size) rfl 30 (hcel h) _ (B8.out.nx hx) Tryd.underlying30 rfl iH.out (hK _ _ rfl (Nx.refl _)))
                · have e2 : x 2 = .bool false := hd 2 (by decide)
                  generalize x 2 = y2 at e2 hK ⊢
                  subst e2
                  exact wpOp_g rfl (by rfl) (wp_val_of (some 54) rfl (.slice (some ⟨b, o, none⟩) ln cl) (by kernel_rfl) (hK _ _ rfl (Nx.refl _)))
                · have e2 : x 2 = .bool false := hd 2 (by decide)
                  generalize x 2 = y2 at e2 hK ⊢
                  subst e2
                  exact wpOp_g rfl (by rfl) (wp_val_of (some 55) rfl (.int .i64 (k : Int)) (by kernel_rfl) (hK _ _ rfl (Nx.refl _)))
                · have e4 : x 4 = .slice (some ⟨b, o, none⟩) ln cl := hd 4 (by decide)
                  have e5 : x 5 = .int .i64 (k : Int) := hd 5 (by decide)
                  have e2 : x 2 = .bool false := hd 2 (by decide)
                  generalize x 4 = y4 at e4 hK ⊢
                  subst e4
                  generalize x 5 = y5 at e5 hK ⊢
                  subst e5
                  generalize x 2 = y2 at e2 hK ⊢
                  subst e2
                  exact wpOp_g rfl (by rfl) (wp_ix_of (some 56) rfl 46 30 (.tmp 54) (.tmp 55) rfl Tryd.underlying46 32 Tryd.sizeOf30 b o ln cl k (k : Int) rfl rfl rfl HKL.out (hK _ _ rfl (Nx.refl _)))
                · have e6 : x 6 = .pointer (some ⟨b, o + k * 32, none⟩) := hd 6 (by decide)
                  have e2 : x 2 = .bool false := hd 2 (by decide)
                  generalize x 6 = y6 at e6 hK ⊢
                  subst e6
                  generalize x 2 = y2 at e2 hK ⊢
                  subst e2
                  exact wpOp_g rfl (by rfl) (wp_load_at (some 57) rfl 30 (.tmp 56) rfl b (o + k * 32) rfl (hcel X) _ (CL.out wr (N8.out.trans hx)) Tryd.underlying30 rfl iX.out (hK _ _ rfl (Nx.refl _)))
                · have e3 : x 3 = .agg (hcel h) := hd 3 (by decide)
                  have e7 : x 7 = .agg (hcel X) := hd 7 (by decide)
                  have e2 : x 2 = .bool false := hd 2 (by decide)
                  generalize x 3 = y3 at e3 hK ⊢
                  subst e3
                  generalize x 7 = y7 at e7 hK ⊢
                  subst e7
                  generalize x 2 = y2 at e2 hK ⊢
                  subst e2
                  exact wpOp_g rfl (by rfl) (wp_eql_of (some 58) rfl 30 _ _ _ rfl (hcel h) (hcel X) rfl rfl (by kernel_rfl) false (EQK.out wr) (hK _ _ rfl (Nx.refl _)))
                · have e8 : x 8 = .bool false := hd 8 (by decide)
                  have e2 : x 2 = .bool false := hd 2 (by decide)
                  generalize x 8 = y8 at e8 hK ⊢
                  subst e8
                  generalize x 2 = y2 at e2 hK ⊢
                  subst e2
                  exact wpOp_g rfl (by rfl) (wp_val_of (some 59) rfl (.bool false) (by kernel_rfl) (hK _ _ rfl (Nx.refl _)))
                · have e9 : x 9 = .bool false := hd 9 (by decide)
                  generalize x 9 = y9 at e9 hK ⊢
                  subst e9
                  exact wpOp_skip (some 60) rfl rfl (by rfl) (hK undef wr rfl (Nx.refl _))
                · have e9 : x 9 = .bool false := hd 9 (by decide)
                  generalize x 9 = y9 at e9 hK ⊢
                  subst e9
                  exact wpOp_skip (some 61) rfl rfl (by rfl) (hK undef wr rfl (Nx.refl _))
                · have e9 : x 9 = .bool false := hd 9 (by decide)
                  generalize x 9 = y9 at e9 hK ⊢
                  subst e9
                  exact wpOp_skip (some 62) rfl rfl (by rfl) (hK undef wr rfl (Nx.refl _))
                · have e9 : x 9 = .bool false := hd 9 (by decide)
                  have e2 : x 2 = .bool false := hd 2 (by decide)
                  generalize x 9 = y9 at e9 hK ⊢
                  subst e9
                  generalize x 2 = y2 at e2 hK ⊢
                  subst e2
                  exact wpOp_g rfl (by rfl) (wp_val_of (some 63) rfl (.bool false) (by kernel_rfl) (hK _ _ rfl (Nx.refl _)))
                · have e2 : x 2 = .bool false := hd 2 (by decide)
                  have e13 : x 13 = .bool false := hd 13 (by decide)
                  generalize x 2 = y2 at e2 hK ⊢
                  subst e2
                  generalize x 13 = y13 at e13 hK ⊢
                  subst e13
                  exact wpOp_of rfl rfl (wp_val_of (some 64) rfl (.bool false) (by kernel_rfl) (hK _ _ rfl (Nx.refl _)))
                · have e14 : x 14 = .bool false := hd 14 (by decide)
                  generalize x 14 = y14 at e14 hK ⊢
                  subst e14
                  exact wpOp_of rfl rfl (wp_val_of (some 65) rfl (.bool false) (by kernel_rfl) (hK _ _ rfl (Nx.refl _)))
                · have e15 : x 15 = .bool false := hd 15 (by decide)
                  generalize x 15 = y15 at e15 hK ⊢
                  subst e15
                  exact wpOp_g rfl (by rfl) (wp_load_row_of (some 66) rfl 30 (.tmp 5) rfl (w.heap.size) rfl 30 (hcel h) _ (B8.out.nx hx) Tryd.underlying30 rfl iH.out (hK _ _ rfl (Nx.refl _)))
                · have e15 : x 15 = .bool false := hd 15 (by decide)
                  generalize x 15 = y15 at e15 hK ⊢
                  subst e15
                  exact wpOp_g rfl (by rfl) (wp_val_of (some 67) rfl (.slice (some ⟨b, o, none⟩) ln cl) (by kernel_rfl) (hK _ _ rfl (Nx.refl _)))
                · have e15 : x 15 = .bool false := hd 15 (by decide)
                  generalize x 15 = y15 at e15 hK ⊢
                  subst e15
                  exact wpOp_g rfl (by rfl) (wp_val_of (some 68) rfl (.int .i64 (k : Int)) (by kernel_rfl) (hK _ _ rfl (Nx.refl _)))
                · have e17 : x 17 = .slice (some ⟨b, o, none⟩) ln cl := hd 17 (by decide)
                  have e18 : x 18 = .int .i64 (k : Int) := hd 18 (by decide)
                  have e15 : x 15 = .bool false := hd 15 (by decide)
                  generalize x 17 = y17 at e17 hK ⊢
                  subst e17
                  generalize x 18 = y18 at e18 hK ⊢
                  subst e18
                  generalize x 15 = y15 at e15 hK ⊢
                  subst e15
                  exact wpOp_g rfl (by rfl) (wp_ix_of (some 69) rfl 46 30 (.tmp 67) (.tmp 68) rfl Tryd.underlying46 32 Tryd.sizeOf30 b o ln cl k (k : Int) rfl rfl rfl HKL.out (hK _ _ rfl (Nx.refl _)))
                · have e19 : x 19 = .pointer (some ⟨b, o + k * 32, none⟩) := hd 19 (by decide)
                  have e15 : x 15 = .bool false := hd 15 (by decide)
                  generalize x 19 = y19 at e19 hK ⊢
                  subst e19
                  generalize x 15 = y15 at e15 hK ⊢
                  subst e15
                  exact wpOp_g rfl (by rfl) (wp_load_at (some 70) rfl 30 (.tmp 69) rfl b (o + k * 32) rfl (hcel X) _ (CL.out wr (N8.out.trans hx)) Tryd.underlying30 rfl iX.out (hK _ _ rfl (Nx.refl _)))
                · have e16 : x 16 = .agg (hcel h) := hd 16 (by decide)
                  have e20 : x 20 = .agg (hcel X) := hd 20 (by decide)
                  have e15 : x 15 = .bool false := hd 15 (by decide)
                  generalize x 16 = y16 at e16 hK ⊢
                  subst e16
                  generalize x 20 = y20 at e20 hK ⊢
                  subst e20
                  generalize x 15 = y15 at e15 hK ⊢
                  subst e15
                  exact wpOp_g rfl (by rfl) (wp_neq_of (some 71) rfl 30 _ _ _ rfl (hcel h) (hcel X) rfl rfl (by kernel_rfl) false (EQK.out wr) (hK _ _ rfl (Nx.refl _)))
                · have e21 : x 21 = .bool true := hd 21 (by decide)
                  have e15 : x 15 = .bool false := hd 15 (by decide)
                  generalize x 21 = y21 at e21 hK ⊢
                  subst e21
                  generalize x 15 = y15 at e15 hK ⊢
                  subst e15
                  exact wpOp_g rfl (by rfl) (wp_val_of (some 72) rfl (.bool true) (by kernel_rfl) (hK _ _ rfl (Nx.refl _)))
                · have e22 : x 22 = .bool true := hd 22 (by decide)
                  generalize x 22 = y22 at e22 hK ⊢
                  subst e22
                  exact wpOp_g rfl (by rfl) (wp_load_row_of (some 73) rfl 30 (.tmp 11) rfl (w7.heap.size) rfl 30 (hcel SH) _ (S8.out.nx hx) Tryd.underlying30 rfl iS.out (hK _ _ rfl (Nx.refl _)))
                · have e22 : x 22 = .bool true := hd 22 (by decide)
                  generalize x 22 = y22 at e22 hK ⊢
                  subst e22
                  exact wpOp_g rfl (by rfl) (wp_load_row_of (some 74) rfl 30 (.tmp 7) rfl (w3.heap.size) rfl 30 (hcel RH) _ (R8.out.nx hx) Tryd.underlying30 rfl iR.out (hK _ _ rfl (Nx.refl _)))
                · have e23 : x 23 = .agg (hcel SH) := hd 23 (by decide)
                  have e24 : x 24 = .agg (hcel RH) := hd 24 (by decide)
                  have e22 : x 22 = .bool true := hd 22 (by decide)
                  generalize x 23 = y23 at e23 hK ⊢
                  subst e23
                  generalize x 24 = y24 at e24 hK ⊢
                  subst e24
                  generalize x 22 = y22 at e22 hK ⊢
                  subst e22
                  exact wpOp_g rfl (by rfl) (wp_neq_of (some 75) rfl 30 _ _ _ rfl (hcel SH) (hcel RH) rfl rfl (by kernel_rfl) false (EQR.out wr) (hK _ _ rfl (Nx.refl _)))
                · have e25 : x 25 = .bool true := hd 25 (by decide)
                  have e22 : x 22 = .bool true := hd 22 (by decide)
                  generalize x 25 = y25 at e25 hK ⊢
                  subst e25
                  generalize x 22 = y22 at e22 hK ⊢
                  subst e22
                  exact wpOp_g rfl (by rfl) (wp_val_of (some 76) rfl (.bool true) (by kernel_rfl) (hK _ _ rfl (Nx.refl _)))
                · have e26 : x 26 = .bool true := hd 26 (by decide)
                  generalize x 26 = y26 at e26 hK ⊢
                  subst e26
                  exact wpOp_skip (some 77) rfl rfl (by rfl) (hK undef wr rfl (Nx.refl _))
                · have e26 : x 26 = .bool true := hd 26 (by decide)
                  generalize x 26 = y26 at e26 hK ⊢
                  subst e26
                  exact wpOp_skip (some 78) rfl rfl (by rfl) (hK undef wr rfl (Nx.refl _))
                · have e26 : x 26 = .bool true := hd 26 (by decide)
                  generalize x 26 = y26 at e26 hK ⊢
                  subst e26
                  exact wpOp_skip (some 79) rfl rfl (by rfl) (hK undef wr rfl (Nx.refl _))
                · have e26 : x 26 = .bool true := hd 26 (by decide)
                  have e22 : x 22 = .bool true := hd 22 (by decide)
                  generalize x 26 = y26 at e26 hK ⊢
                  subst e26
                  generalize x 22 = y22 at e22 hK ⊢
                  subst e22
                  exact wpOp_g rfl (by rfl) (wp_val_of (some 80) rfl (.bool true) (by kernel_rfl) (hK _ _ rfl (Nx.refl _)))
                · have e22 : x 22 = .bool true := hd 22 (by decide)
                  have e30 : x 30 = .bool true := hd 30 (by decide)
                  have e15 : x 15 = .bool false := hd 15 (by decide)
                  generalize x 22 = y22 at e22 hK ⊢
                  subst e22
                  generalize x 30 = y30 at e30 hK ⊢
                  subst e30
                  generalize x 15 = y15 at e15 hK ⊢
                  subst e15
                  exact wpOp_g rfl (by rfl) (wp_val_of (some 81) rfl (.bool true) (by kernel_rfl) (hK _ _ rfl (Nx.refl _)))
                · have e15 : x 15 = .bool false := hd 15 (by decide)
                  have e31 : x 31 = .bool true := hd 31 (by decide)
                  generalize x 15 = y15 at e15 hK ⊢
                  subst e15
                  generalize x 31 = y31 at e31 hK ⊢
                  subst e31
                  exact wpOp_of rfl rfl (wp_val_of (some 82) rfl (.bool true) (by kernel_rfl) (hK _ _ rfl (Nx.refl _)))
                · have e32 : x 32 = .bool true := hd 32 (by decide)
                  generalize x 32 = y32 at e32 hK ⊢
                  subst e32
                  exact wpOp_of rfl rfl (wp_val_of (some 83) rfl (.bool true) (by kernel_rfl) (hK _ _ rfl (Nx.refl _)))
                · have e33 : x 33 = .bool true := hd 33 (by decide)
                  generalize x 33 = y33 at e33 hK ⊢
                  subst e33
                  refine wpOp_g rfl (by rfl) (wp_call_of (some 84) rfl 38 #[] (by kernel_rfl) (.bool true) ?_ (fun w' h => hK _ w' rfl h))
                  exact C8.out wr (N8.out.trans hx)
                · have e33 : x 33 = .bool true := hd 33 (by decide)
                  have e34 : x 34 = .bool true := hd 34 (by decide)
                  generalize x 33 = y33 at e33 hK ⊢
                  subst e33
                  generalize x 34 = y34 at e34 hK ⊢
                  subst e34
                  exact wpOp_of rfl rfl (wp_val_of (some 85) rfl (.bool true) (by kernel_rfl) (hK _ _ rfl (Nx.refl _)))
              · intro x tm wr htm hx hv
                simp only [fillA, List.setIfInBounds_toArray, List.set_cons_zero, List.set_cons_succ] at htm
                subst htm
                have e35 : x 35 = .bool true := hv 35 (by decide)
                rw [e35]
                go_wp2_with fail
                go_ret
                exact ⟨rfl, N0.out.trans (N8.out.trans hx)⟩
end Go.Proofs.YtjbeemoobmagnaaDoor
