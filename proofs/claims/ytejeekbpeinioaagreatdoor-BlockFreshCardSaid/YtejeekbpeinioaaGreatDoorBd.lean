/- TEXTS OF OUR OWN, IN ONE FILE: heads and lists of hashes, what block needs of them. -/
import Derived.Test.YtejeekbpeinioaaGreatDoorBc
import Derived.Test.YtejeekbpeinioaaGreatDoorTm

section
namespace Go.Proofs.YtejeekbpeinioaaGreatDoor
open Go Go.RowKit
set_option linter.unusedVariables false
set_option linter.unusedSimpArgs false
set_option linter.unusedVariables false
set_option linter.unusedSimpArgs false

/-- Rows of hashes, as elements: slices of slices. -/
def elR : El Hs where
  E := 36
  k := 1
  pos := by decide
  rd := fun s w cs a => ∃ u, cs = [u] ∧ RdA elH s w u a
  len := by rintro s w cs a ⟨u, rfl, _⟩; rfl
  one := by
    rintro s w cs a ⟨u, rfl, h⟩ v hv
    obtain rfl := List.mem_singleton.1 hv
    obtain ⟨A, c, rfl, _⟩ := h.1.h_parts
    rfl
  nx := fun ⟨u, e, h⟩ x => ⟨u, e, h.nx x⟩
  grown := fun ⟨u, e, h⟩ x => ⟨u, e, h.grown x⟩
  free := fun ⟨u, e, h⟩ => ⟨u, e, h.1, fun _ _ hq => by cases hq⟩
  apart := fun ⟨u, e, h⟩ hs => ⟨u, e, RdA.of_lt h.1 hs⟩
/-- The row above, as far as it has come. -/
def abvTo (l : Hs) (k : Nat) : Hs := (abv l).take k
theorem hasGrown {w w' : World} {g : Nat} {s : Option Nat} (h : Has w g) (x : w.grownBy w' s) (hs : ∀ q, s = some q → q ≠ g) : Has w' g := by
  have := x.block g (Row.lt h) (fun e => hs g e.symm rfl)
  unfold Has Row at *
  rw [this]; exact h
theorem abvTo_next (l : Hs) (k : Nat) (hk : k < halfN l.length) : abvTo l (k + 1) = abvTo l k ++ [join2 (l.getD (2 * k) []) (l.getD (nbr (2 * k) l.length) [])] := by
  unfold abvTo
  rw [List.take_succ_eq_append_getElem (by rw [abv_length]; exact hk), abv_get]
theorem OwnE.setRow {B : Nat} {w : World} {v : Value} {es : Hs} (h : OwnE elH B w v es) {k : Nat} (cs : Array Value) (hk : ∀ q, v.ownBlock = some q → q ≠ k) : OwnE elH B (w.setRow k cs) v es := by
  obtain ⟨fs, ⟨h0, h2 | ⟨g, c, full, rfl, hb, hg, rest⟩⟩, hv⟩ := h
  · exact ⟨fs, ⟨h0, .inl h2⟩, hv⟩
  · refine ⟨fs, ⟨h0, .inr ⟨g, c, full, rfl, hb, ?_, rest⟩⟩, hv⟩
    rw [Go.setRow_other _ _ _ _ (hk g rfl)]
    exact hg
theorem RdE.h32 {w : World} {v : Value} {l : Hs} (h : RdE elH w v l) : H32 l := by obtain ⟨_, _, _, _, _, h, _⟩ := h.h_parts; exact h
theorem allOk_step (l : Hs) (h : ¬ l.length ≤ 1) (s : Bool) : (s && allOk l) = ((s && okRow l) && allOk (abv l)) := by rw [allOk_gt h, Bool.and_assoc]


/-- The hashes joined and appended, in whatever order. -/
def J14 (B1 : Nat) (wx : World) (up pv : Value) (a b H : List UInt8) (D : Hs) (L : Nat → Bool) (x : Nat → Value) (w' : World) : Prop :=
  (L 9 = false → Nx wx w') ∧ (L 0 = true → x 0 = up) ∧ (L 1 = true → x 1 = pv) ∧ (L 2 = true → x 2 = .agg (hcel a)) ∧ (L 3 = true → L 6 = false → Own wx.heap.size w' (x 3) a) ∧ (L 4 = true → x 4 = .agg (hcel b)) ∧ (L 5 = true → L 6 = false → Own wx.heap.size w' (x 5) b) ∧
  (L 3 = true → L 5 = true → L 6 = false → ∀ q, (x 3).ownBlock = some q → (x 5).ownBlock ≠ some q) ∧ (L 6 = true → L 7 = false → Own wx.heap.size w' (x 6) (a ++ b)) ∧ (L 7 = true → x 7 = .agg (hcel H)) ∧ (L 8 = true → L 9 = false → ∃ g, x 8 = .slice (some ⟨g, 0, none⟩) 1 1 ∧ wx.heap.size ≤ g ∧ Row w' g (hcel H) 23) ∧
  (L 9 = true → OwnE elH B1 w' (x 9) (D ++ [H]) ∧ Below B1 wx w') ∧ (L 10 = true → x 10 = x 9) ∧ (L 10 = false → x 10 = up)
theorem RdF.of_row1 {w : World} {g : Nat} {x : List UInt8} (h : Row w g (hcel x) 23) (hx : x.length = 32) : RdF 32 w (.slice (some ⟨g, 0, none⟩) 1 1) 1 (hfs [x]) := by
  have h32 : H32 [x] := H32.one hx
  refine ⟨hfs_length h32, hfs_one _, some ⟨g, 0, none⟩, 1, rfl, Nat.le_refl _, by decide, fun _ => ⟨g, 0, rfl, h.lt, fun j hj => ?_⟩⟩
  rw [Nat.zero_add]
  refine h.cell ?_
  simp only [hfs, List.flatMap_cons, List.flatMap_nil, List.append_nil, hcel, List.getElem?_toArray]
  exact List.getElem?_eq_getElem _

theorem info_rows : (Tryz.prog.info? 36).map (fun i => (i.zero, i.size, i.bytes)) = some (some (.slice none 0 0), 1, 24) := by kernel_rfl
theorem run_mkr (A : Option Addr) (n c : Nat) (w : World) : (Instr.buildSlice 111 1 #[(0, .slice A n c)]).run Tryz.prog w = .ok (.slice (some ⟨w.heap.size, 0, none⟩) 1 1) (w.alloc (.cells #[.slice A n c] 36)) := by kernel_rfl
theorem rdF_one1 (v : Value) (h : v.oneCell' = true) (w : World) (T : TypeId) : RdF 1 (w.alloc (.cells #[v] T)) (.slice (some ⟨w.heap.size, 0, none⟩) 1 1) 1 [v] := by
  refine ⟨rfl, fun u hu => by rw [List.mem_singleton.1 hu]; exact h, _, _, rfl, Nat.le_refl _, by decide, fun _ => ⟨_, _, rfl, by simp, fun j hj => ?_⟩⟩
  have : j = 0 := by simpa using hj
  subst this
  exact (Row.new w #[v] T _ rfl).cell rfl
theorem ownE_one (w : World) (u : Value) (l : Hs) (h : RdE elH w u l) : OwnE elR w.heap.size (w.alloc (.cells #[u] 36)) (.slice (some ⟨w.heap.size, 0, none⟩) 1 1) [l] := by
  refine ⟨[u], ⟨rfl, .inr ⟨w.heap.size, 1, [u], rfl, Nat.le_refl _, heap_alloc_new w _, rfl, Nat.le_refl _, by decide, rfl⟩⟩, AllE.single (L := elR) ⟨u, rfl, ?_⟩⟩
  exact (RdA.of_lt h (fun q hq => by have : w.heap.size = q := (by simpa [Value.ownBlock] using hq); omega)).nx ((Nx.refl w).alloc _)
theorem okMin (l : Hs) (k : Nat) (h : 2 * k + 1 < l.length) : okTo l (min (k + 1) (l.length / 2)) = (okTo l (min k (l.length / 2)) && decide (l.getD (2 * k) [] ≠ l.getD (2 * k + 1) [])) := by
  rw [show min (k + 1) (l.length / 2) = k + 1 by omega, show min k (l.length / 2) = k by omega, okTo_next]

set_option maxRecDepth 100000 in
set_option maxHeartbeats 8000000 in
theorem rrows_any (v : Value) (l : Hs) (w : World) (hr : RdE elH w v l) (hn : l.length ≤ 1000) :
    Calls Tryz.prog 71 #[v] w fun e w' => ∃ v', e = .returned (.tuple #[v', .bool (rootB l)]) ∧ RdE elR w' v' (rowsF l) ∧ Nx w w' := by
  obtain ⟨hz, hzs⟩ := zero_of_info info_hash'
  obtain ⟨RB0, hRB⟩ : ∃ RB, rootB l = RB := ⟨_, rfl⟩
  obtain ⟨RF, hRF⟩ : ∃ RF, rowsF l = RF := ⟨_, rfl⟩
  have h32 := Lib.hid hr.h32
  have HS0 : Hid ((decide (0 < l.length) && allOk l) = RB0) := Lib.hid (by rw [← hRB]; rfl)
  rw [hRB, hRF]
  replace hRF := Lib.hid hRF
  clear hRB
  have HZL : Hid ((List.replicate 32 (0 : UInt8)).length = 32) := Lib.hid List.length_replicate
  generalize hZZ : List.replicate 32 (0 : UInt8) = ZZ at *
  replace hZZ := Lib.hid hZZ
  have HR := Lib.hid hr
  obtain ⟨A, c, rfl, -⟩ := hr.h_parts
  have HLN := Lib.hid hn
  clear hr hn
  go_enter Tryz.func71, Tryz.ntmps71
  go_wp2_with fail
  refine (new_any _).mono ?_
  rintro e w1 ⟨gh, rfl, hg, G1, n1⟩
  have HG1 := Lib.hid G1
  have HR1 := Lib.hid (HR.out.nx n1)
  have N1 := Lib.hid n1
  clear G1 n1 hg HR
  have hmk := Lib.hid (run_mkr A l.length c w1)
  go_wp2_with (refine wpList_mk rfl 111 1 _ rfl #[(0, .slice A l.length c)] (by kernel_rfl) _ _ hmk.out ?_)
  have NA := Lib.hid ((Nx.refl w1).alloc (.cells #[.slice A l.length c] 36))
  have HO := Lib.hid (ownE_one w1 _ l HR1.out)
  have HRA : Hid (RdA elH (Value.ownBlock (.slice (some ⟨w1.heap.size, 0, none⟩) 1 1)) (w1.alloc (.cells #[.slice A l.length c] 36)) (.slice A l.length c) l) := Lib.hid ((RdA.of_lt HR1.out (fun q hq => by have : w1.heap.size = q := (by simpa [Value.ownBlock] using hq); omega)).nx NA.out)
  have HG := Lib.hid (HG1.out.nx NA.out)
  have HN := Lib.hid NA.out
  have HGH : Hid (gh < w1.heap.size) := Lib.hid (Row.lt HG1.out)
  generalize hW : w1.alloc (.cells #[.slice A l.length c] 36) = W at *
  generalize hU : Value.slice (some ⟨w1.heap.size, 0, none⟩) 1 1 = U at *
  have HD1 : Hid (([l] : List Hs) ++ (rowsF l).tail = RF) := Lib.hid (by
    rw [← hRF.out]
    by_cases h1 : l.length ≤ 1
    · rw [rowsF_le h1]; rfl
    · rw [rowsF_gt h1]; rfl)
  clear hmk hW HR1 NA HG1 hU
  go_loopw [0, 5, 6] (fun r u s wr => ∃ (L : Hs) (D : List Hs) (sd : Bool), Hid (RdA elH u.ownBlock wr r L) ∧ Hid (OwnE elR w1.heap.size wr u D) ∧ s = .bool sd ∧ Hid (L.length ≤ 1000) ∧ Hid (D.length + L.length ≤ 1001) ∧ Hid (D ++ (rowsF L).tail = RF) ∧ Hid ((sd && allOk L) = RB0) ∧ Hid (Has wr gh) ∧ Hid (Nx w1 wr)) (fun r _ _ _ => lenOf r)
  case atStart => exact ⟨l, [l], _, HRA, HO, rfl, HLN, Lib.hid (by have := HLN.out; simp; omega), HD1, HS0, HG, HN⟩
  case round =>
    clear HRA HO HLN HD1 HS0 HG HN h32 hRF
    obtain ⟨L, D, sd, HRA, HO, rfl, HLN, HDL0, HF, HS, HG, HN⟩ := hrel
    obtain ⟨AL, cL, rfl, hc1, hc2, h32, hcq⟩ := HRA.out.1.h_parts
    have HNI : (L.length : Int) ≤ 1000 := by have := HLN.out; omega
    by_cases h1 : L.length ≤ 1
    · have h1i : ¬ (1 : Int) < (L.length : Int) := by omega
      have e1 : Hid (D = RF) := Lib.hid (by rw [← HF.out, rowsF_le h1]; simp)
      have e2 : Hid (sd = RB0) := Lib.hid (by rw [← HS.out, allOk_le h1, Bool.and_true])
      clear hcq hc1 hc2 h32 h1
      go_wp2_with fail
      go_ret2
      exact ⟨_, by rw [← e2.out]; rfl, by rw [← e1.out]; exact HO.out.rd, N1.out.trans HN.out⟩
    · have hcq2 := hcq (by omega)
      clear hcq
      obtain ⟨b, o, rfl, hb, hcell⟩ := hcq2
      have h1i : (1 : Int) < (L.length : Int) := by omega
      have HGC := Lib.hid (fun j hj => getD_cells hcell j hj)
      have HGL := Lib.hid (fun j (hj : j < L.length) => h32.getD hj)
      have HB := Lib.hid hb
      have HAL := Lib.hid (abv_length L)
      have HAT := Lib.hid (abv_lt h1)
      have HA32 := Lib.hid (abv_32 L)
      have HTN := Lib.hid (fun k (hk : k < halfN L.length) => abvTo_next L k hk)
      have HF2 : Hid ((D ++ [abv L]) ++ (rowsF (abv L)).tail = RF) := Lib.hid (by
        rw [← HF.out, rowsF_gt h1, List.tail_cons, List.append_assoc]
        congr 1
        by_cases h2 : (abv L).length ≤ 1
        · rw [rowsF_le h2]; rfl
        · rw [rowsF_gt h2]; rfl)
      have HS2 : Hid (((sd && okRow L) && allOk (abv L)) = RB0) := Lib.hid (by rw [← allOk_step L h1, HS.out])
      have HTA : Hid (abvTo L (halfN L.length) = abv L) := Lib.hid (by unfold abvTo; rw [List.take_of_length_le (by rw [abv_length]; exact Nat.le_refl _)])
      have HOR := Lib.hid (okRow_to L)
      have HMN := Lib.hid (okMin L)
      have HHL : Hid (halfN L.length < L.length) := Lib.hid (by unfold halfN; omega)
      obtain ⟨wo, hwo⟩ : ∃ x, x = wr := ⟨_, rfl⟩
      subst hwo
      clear hcell hb h32 hc1 hc2 h1
      generalize hLn : L.length = n at *
      replace hLn := Lib.hid hLn
      go_wp2_with fail
      go_loopw [6, 7, 8] (fun s up i wq => ∃ (k : Nat) (s2 : Bool), Hid (OwnE elH wo.heap.size wq up (abvTo L k)) ∧ i = .int .i64 ((2 * k : Nat) : Int) ∧ s = .bool s2 ∧ Hid (k ≤ halfN n) ∧ Hid (s2 = (sd && okTo L (min k (n / 2)))) ∧ Hid (Nx wo wq)) (fun _ _ i _ => n + 1 - (intOf i).toNat)
      case atStart => exact ⟨0, sd, Lib.hid (by unfold abvTo; rw [List.take_zero]; exact OwnE.nil _ _), rfl, rfl, Lib.hid (Nat.zero_le _), Lib.hid (by rw [Nat.zero_min]; simp [okTo]), Lib.hid (Nx.refl wo)⟩
      case round =>
        obtain ⟨k, s2, HUP, rfl, rfl, HK, HS3, HNO⟩ := hrel
        by_cases hlt : 2 * k < n
        · have hlti : ((2 * k : Nat) : Int) < (n : Int) := by omega
          have HJ1 : Hid (2 * k < n) := Lib.hid hlt
          have LA := Lib.hid (HGL.out _ hlt)
          have C1 : Hid (∀ wr', Nx wr wr' → ∀ i u, (hcel (L.getD (2 * k) []))[i]? = some u → wr'.cell? ⟨b, o + 2 * k * 32 + i, none⟩ = some u) := Lib.hid fun wr' hx i u hu => ((HNO.out.trans hx).cell (p := ⟨b, o + 2 * k * 32 + i, none⟩) HB.out).trans (HGC.out _ hlt i u hu)
          have HQ : Hid (nbr (2 * k) n = if 2 * k + 1 < n then 2 * k + 1 else 2 * k) := Lib.hid (by unfold nbr; rw [if_neg (by omega)])
          have LB0 := Lib.hid (HGL.out _ (nbr_lt hlt))
          have hki : ((2 * k : Nat) : Int) ≤ 1000 := by have := HLN.out; omega
          have HM1 : Hid (k < halfN n) := Lib.hid (by unfold halfN; omega)
          have HNX := Lib.hid (HTN.out k HM1.out)
          have HHJ := Lib.hid (join2_length (L.getD (2 * k) []) (L.getD (nbr (2 * k) n) []))
          generalize ha : L.getD (2 * k) [] = a at *
          have Z1 := Lib.hid (hashsz a LA.out)
          have oA := Lib.hid (hashsame ZZ a HZL.out LA.out)
          replace hlt := Lib.hid hlt
          go_wp2_with fail
          refine wp_region_bk 12 [[], [], [0, 1], [2], [], [], [4, 5], [6], [], [], [8, 3, 0, 1, 2, 3, 8, 9], [9, 7, 10, 0, 1, 2, 3, 4, 5, 6, 7, 8, 9, 10]] [some 26, some 27, some 28, some 29, some 30, some 31, some 32, some 33, some 9, some 10, none, none]
            [.slice (some ⟨b, o, none⟩) n cL, .int .i64 ((2 * k : Nat) : Int), .pointer (some ⟨b, o + 2 * k * 32, none⟩), .agg (hcel a), .slice (some ⟨b, o, none⟩) n cL, .int .i64 ((2 * k : Nat) : Int), .pointer (some ⟨b, o + 2 * k * 32, none⟩), .agg (hcel a), undef, undef, undef, undef]
            [⟨8, 10, hcel ZZ, hcel a, 23⟩, ⟨9, 11, hcel ZZ, hcel a, 23⟩] [] [8, 9, 10, 11] [(8, 10), (9, 11)] rfl rfl
            (by kernel_rfl) (by kernel_rfl) (hord_of (by decide)) (by kernel_rfl) rfl (by decide) (by decide) (by decide) (by decide) (fun _ h => by cases h) (by decide) ?_ ?_ ?_ ?_ ?_
          · intro x tm wr htm hx i hi hs hd ho K hK
            simp only [fillA, List.setIfInBounds_toArray, List.set_cons_zero, List.set_cons_succ] at htm
            subst htm
            have hcs : i = 0 ∨ i = 1 ∨ i = 2 ∨ i = 3 ∨ i = 4 ∨ i = 5 ∨ i = 6 ∨ i = 7 ∨ i = 8 ∨ i = 9 ∨ i = 10 ∨ i = 11 := by omega
            clear hi
            rcases hcs with rfl | rfl | rfl | rfl | rfl | rfl | rfl | rfl | rfl | rfl | rfl | rfl
            · exact wpOp_of rfl rfl (wp_val_of (some 26) rfl (.slice (some ⟨b, o, none⟩) n cL) (by kernel_rfl) (hK _ (Nx.refl _)))
            · exact wpOp_of rfl rfl (wp_val_of (some 27) rfl (.int .i64 ((2 * k : Nat) : Int)) (by kernel_rfl) (hK _ (Nx.refl _)))
            · have e0 : x 0 = .slice (some ⟨b, o, none⟩) n cL := hd 0 (by decide) (by decide)
              generalize x 0 = y0 at e0 hK ⊢
              subst e0
              have e1 : x 1 = .int .i64 ((2 * k : Nat) : Int) := hd 1 (by decide) (by decide)
              generalize x 1 = y1 at e1 hK ⊢
              subst e1
              exact wpOp_of rfl rfl (wp_ix_ofh (some 28) rfl 36 23 (.tmp 26) (.tmp 27) rfl Tryz.underlying36 32 Tryz.sizeOf23 b o n cL (2 * k) ((2 * k : Nat) : Int) rfl rfl rfl HJ1.out (hK _ (Nx.refl _)))
            · have e2 : x 2 = .pointer (some ⟨b, o + 2 * k * 32, none⟩) := hd 2 (by decide) (by decide)
              generalize x 2 = y2 at e2 hK ⊢
              subst e2
              exact wpOp_of rfl rfl (wp_load_at (some 29) rfl 23 (.tmp 28) rfl b (o + 2 * k * 32) rfl (hcel a) _ (C1.out wr (Kp.free hx)) Tryz.underlying23 rfl Z1.out (hK _ (Nx.refl _)))
            · exact wpOp_of rfl rfl (wp_val_of (some 30) rfl (.slice (some ⟨b, o, none⟩) n cL) (by kernel_rfl) (hK _ (Nx.refl _)))
            · exact wpOp_of rfl rfl (wp_val_of (some 31) rfl (.int .i64 ((2 * k : Nat) : Int)) (by kernel_rfl) (hK _ (Nx.refl _)))
            · have e4 : x 4 = .slice (some ⟨b, o, none⟩) n cL := hd 4 (by decide) (by decide)
              generalize x 4 = y4 at e4 hK ⊢
              subst e4
              have e5 : x 5 = .int .i64 ((2 * k : Nat) : Int) := hd 5 (by decide) (by decide)
              generalize x 5 = y5 at e5 hK ⊢
              subst e5
              exact wpOp_of rfl rfl (wp_ix_ofh (some 32) rfl 36 23 (.tmp 30) (.tmp 31) rfl Tryz.underlying36 32 Tryz.sizeOf23 b o n cL (2 * k) ((2 * k : Nat) : Int) rfl rfl rfl HJ1.out (hK _ (Nx.refl _)))
            · have e6 : x 6 = .pointer (some ⟨b, o + 2 * k * 32, none⟩) := hd 6 (by decide) (by decide)
              generalize x 6 = y6 at e6 hK ⊢
              subst e6
              exact wpOp_of rfl rfl (wp_load_at (some 33) rfl 23 (.tmp 32) rfl b (o + 2 * k * 32) rfl (hcel a) _ (C1.out wr (Kp.free hx)) Tryz.underlying23 rfl Z1.out (hK _ (Nx.refl _)))
            · exact absurd (by decide) hs
            · exact absurd (by decide) hs
            · exact absurd (by decide) hs
            · exact absurd (by decide) hs
          · intro e he
            simp only [List.mem_cons, List.not_mem_nil, or_false] at he
            rcases he with rfl | rfl
            · intro tm wr K hK
              exact wpOp_of rfl rfl (wp_alloc_of (some 9) rfl 23 rfl (hcel ZZ) hz hK)
            · intro tm wr K hK
              exact wpOp_of rfl rfl (wp_alloc_of (some 10) rfl 23 rfl (hcel ZZ) hz hK)
          · intro e he
            simp only [List.mem_cons, List.not_mem_nil, or_false] at he
            rcases he with rfl | rfl
            · intro x tm wr g htm hd hp hr K hK
              dsimp only at hd
              simp only [fillA, List.setIfInBounds_toArray, List.set_cons_zero, List.set_cons_succ] at htm
              subst htm
              replace hp : x 8 = .pointer (some ⟨g, 0, none⟩) := hp
              generalize x 8 = y8 at hp hK ⊢
              subst hp
              have e3 : x 3 = .agg (hcel a) := hd 3 (by decide) (by decide)
              generalize x 3 = y3 at e3 hK ⊢
              subst e3
              have e0 : x 0 = .slice (some ⟨b, o, none⟩) n cL := hd 0 (by decide) (by decide)
              generalize x 0 = y0 at e0 hK ⊢
              subst e0
              have e1 : x 1 = .int .i64 ((2 * k : Nat) : Int) := hd 1 (by decide) (by decide)
              generalize x 1 = y1 at e1 hK ⊢
              subst e1
              have e2 : x 2 = .pointer (some ⟨b, o + 2 * k * 32, none⟩) := hd 2 (by decide) (by decide)
              generalize x 2 = y2 at e2 hK ⊢
              subst e2
              exact wpOp_of rfl rfl (wp_store_row 23 (.tmp 9) (.tmp 29) rfl g (hcel a) rfl rfl 23 (hcel ZZ) hr Z1.out oA.out (hcel_one _) hK)
            · intro x tm wr g htm hd hp hr K hK
              dsimp only at hd
              simp only [fillA, List.setIfInBounds_toArray, List.set_cons_zero, List.set_cons_succ] at htm
              subst htm
              replace hp : x 9 = .pointer (some ⟨g, 0, none⟩) := hp
              generalize x 9 = y9 at hp hK ⊢
              subst hp
              have e7 : x 7 = .agg (hcel a) := hd 7 (by decide) (by decide)
              generalize x 7 = y7 at e7 hK ⊢
              subst e7
              have e0 : x 0 = .slice (some ⟨b, o, none⟩) n cL := hd 0 (by decide) (by decide)
              generalize x 0 = y0 at e0 hK ⊢
              subst e0
              have e1 : x 1 = .int .i64 ((2 * k : Nat) : Int) := hd 1 (by decide) (by decide)
              generalize x 1 = y1 at e1 hK ⊢
              subst e1
              have e2 : x 2 = .pointer (some ⟨b, o + 2 * k * 32, none⟩) := hd 2 (by decide) (by decide)
              generalize x 2 = y2 at e2 hK ⊢
              subst e2
              have e3 : x 3 = .agg (hcel a) := hd 3 (by decide) (by decide)
              generalize x 3 = y3 at e3 hK ⊢
              subst e3
              have e4 : x 4 = .slice (some ⟨b, o, none⟩) n cL := hd 4 (by decide) (by decide)
              generalize x 4 = y4 at e4 hK ⊢
              subst e4
              have e5 : x 5 = .int .i64 ((2 * k : Nat) : Int) := hd 5 (by decide) (by decide)
              generalize x 5 = y5 at e5 hK ⊢
              subst e5
              have e6 : x 6 = .pointer (some ⟨b, o + 2 * k * 32, none⟩) := hd 6 (by decide) (by decide)
              generalize x 6 = y6 at e6 hK ⊢
              subst e6
              exact wpOp_of rfl rfl (wp_store_row 23 (.tmp 10) (.tmp 33) rfl g (hcel a) rfl rfl 23 (hcel ZZ) hr Z1.out oA.out (hcel_one _) hK)
          · intro e he
            cases he
          · intro x tm wr htm hx hv hn hdis ho
            simp only [fillA, List.setIfInBounds_toArray, List.set_cons_zero, List.set_cons_succ] at htm
            subst htm
            obtain ⟨gn0, p0, q0, r0⟩ := hn ⟨8, 10, hcel ZZ, hcel a, 23⟩ (.head _)
            obtain ⟨gn1, p1, q1, r1⟩ := hn ⟨9, 11, hcel ZZ, hcel a, 23⟩ (.tail _ (.head _))
            have hne01 : gn0 ≠ gn1 := fun h => hdis ⟨8, 10, hcel ZZ, hcel a, 23⟩ (.head _) ⟨9, 11, hcel ZZ, hcel a, 23⟩ (.tail _ (.head _)) (show ((8 : Nat) ≠ 9) by decide) (p0.trans (by rw [h]; exact p1.symm))
            replace p0 : x 8 = .pointer (some ⟨gn0, 0, none⟩) := p0
            rw [p0]
            replace p1 : x 9 = .pointer (some ⟨gn1, 0, none⟩) := p1
            rw [p1]
            have RA0 := r0
            have RB0 := r1
            have NX := Lib.hid (Kp.free hx)
            clear hx hv hn hdis ho p0 p1 C1
            have NO2 := Lib.hid (HNO.out.trans NX.out)
            have HUP2 := Lib.hid (HUP.out.nx NX.out)
            have hq0 := Lib.hid (show wo.heap.size ≤ gn0 from Nat.le_trans HNO.out.size q0)
            have hq1 := Lib.hid (show wo.heap.size ≤ gn1 from Nat.le_trans HNO.out.size q1)
            have hq1' := Lib.hid q1
            replace hne01 := Lib.hid hne01
            have HUPQ : Hid (∀ q, u7.ownBlock = some q → q ≠ gn1) := Lib.hid fun q hq => by have := (HUP.out.blk q hq).2; omega
            clear q0 q1 NX HUP HNO r0 r1
            have HBN : Hid (L.getD (nbr (2 * k) n) [] = if 2 * k + 1 < n then L.getD (2 * k + 1) [] else a) := Lib.hid (by
              rw [HQ.out]
              split
              · rfl
              · exact ha)
            generalize hbe : L.getD (nbr (2 * k) n) [] = be at *
            clear hbe
            have ZE := Lib.hid (hashsz be LB0.out)
            have oE := Lib.hid (hashsame a be LA.out LB0.out)
            go_upto_if 38 with (fail)
            go_cut [6] (fun s wx => ∃ s3 : Bool, s = .bool s3 ∧ Hid (s3 = (sd && okTo L (min (k + 1) (n / 2)))) ∧ Row wx gn0 (hcel a) 23 ∧ Row wx gn1 (hcel be) 23 ∧ Hid (Nx wo wx) ∧ Hid (OwnE elH wo.heap.size wx u7 (abvTo L k)))
            case first =>
              by_cases h2 : 2 * k + 1 < n
              · have h2i : 2 * (k : Int) + 1 < (n : Int) := by omega
                have HJ2 : Hid (2 * k + 1 < n) := Lib.hid h2
                have hbe : L.getD (2 * k + 1) [] = be := by rw [HBN.out, if_pos h2]
                have C2 : Hid (∀ i u, (hcel be)[i]? = some u → wr.cell? ⟨b, o + (2 * k + 1) * 32 + i, none⟩ = some u) := Lib.hid fun i u hu => (NO2.out.cell (p := ⟨b, o + (2 * k + 1) * 32 + i, none⟩) HB.out).trans (HGC.out _ h2 i u (by rw [hbe]; exact hu))
                have HMM := Lib.hid (HMN.out k h2)
                rw [ha, hbe] at HMM
                have RA1 := RA0.setRow_other (k := gn1) (hcel be) hne01.out
                have RB1 := RB0.setRow (hcel be)
                have NO3 := Lib.hid (NO2.out.setRow (hcel be) hq1.out)
                have HU3 := Lib.hid (HUP2.out.setRow (hcel be) HUPQ.out)
                by_cases hab : a = be
                · have EQT := Lib.hid (fun w => eq_hash2 a be LA.out LB0.out w)
                  rw [show decide (a = be) = true by simp [hab]] at EQT
                  have HS4 : Hid (false = (sd && okTo L (min (k + 1) (n / 2)))) := Lib.hid (by
                    rw [HMM.out]; simp [hab])
                  clear hbe h2 HMM hab
                  go_wp2_with (first | (refine wpList_load_at rfl 23 (.tmp 42) rfl b (o + (2 * k + 1) * 32) rfl (hcel be) _ C2.out Tryz.underlying23 rfl ZE.out ?_) | (refine wpList_store_row rfl 23 (.tmp 10) (.tmp 43) rfl gn1 (hcel be) rfl rfl 23 (hcel a) RB0 ZE.out oE.out (hcel_one _) ?_) | (refine wpList_load_row rfl 23 (.tmp 9) rfl gn0 rfl 23 (hcel a) (0, 0) _ RA1 Tryz.underlying23 rfl Z1.out ?_) | (refine wpList_load_row rfl 23 (.tmp 10) rfl gn1 rfl 23 (hcel be) (0, 0) _ RB1 Tryz.underlying23 rfl ZE.out ?_) | (refine wpList_eql rfl 23 (.tmp 44) (.tmp 45) _ rfl (hcel a) (hcel be) rfl rfl (by kernel_rfl) true (EQT.out _) ?_))
                  go_meet
                  exact ⟨false, rfl, HS4, RA1, RB1, NO3, HU3⟩
                · have EQT := Lib.hid (fun w => eq_hash2 a be LA.out LB0.out w)
                  rw [show decide (a = be) = false by simp [hab]] at EQT
                  have HS4 : Hid (s2 = (sd && okTo L (min (k + 1) (n / 2)))) := Lib.hid (by
                    rw [HMM.out, HS3.out]; simp [hab])
                  clear hbe h2 HMM hab
                  go_wp2_with (first | (refine wpList_load_at rfl 23 (.tmp 42) rfl b (o + (2 * k + 1) * 32) rfl (hcel be) _ C2.out Tryz.underlying23 rfl ZE.out ?_) | (refine wpList_store_row rfl 23 (.tmp 10) (.tmp 43) rfl gn1 (hcel be) rfl rfl 23 (hcel a) RB0 ZE.out oE.out (hcel_one _) ?_) | (refine wpList_load_row rfl 23 (.tmp 9) rfl gn0 rfl 23 (hcel a) (0, 0) _ RA1 Tryz.underlying23 rfl Z1.out ?_) | (refine wpList_load_row rfl 23 (.tmp 10) rfl gn1 rfl 23 (hcel be) (0, 0) _ RB1 Tryz.underlying23 rfl ZE.out ?_) | (refine wpList_eql rfl 23 (.tmp 44) (.tmp 45) _ rfl (hcel a) (hcel be) rfl rfl (by kernel_rfl) false (EQT.out _) ?_))
                  go_meet
                  exact ⟨s2, rfl, HS4, RA1, RB1, NO3, HU3⟩
              · have h2i : ¬ 2 * (k : Int) + 1 < (n : Int) := by omega
                have hbe : a = be := by rw [HBN.out, if_neg h2]
                have HS4 : Hid (s2 = (sd && okTo L (min (k + 1) (n / 2)))) := Lib.hid (by
                  rw [HS3.out, show min (k + 1) (n / 2) = min k (n / 2) by have := hlt.out; omega])
                subst hbe
                clear h2
                go_wp2_with fail
                go_meet
                exact ⟨s2, rfl, HS4, RA0, RB0, NO2, HUP2⟩
            case rest =>
              obtain ⟨s3, rfl, HS4, RA1, RB1, NO3, HU3⟩ := hcut
              clear RA0 RB0 NO2 HUP2 HUPQ hq1'
              have RA := Lib.hid RA1
              have RB := Lib.hid RB1
              have HIS : Hid (shaL (shaL (a ++ be)) = join2 a be) := Lib.hid rfl
              generalize join2 a be = H at *
              have HG3 := Lib.hid (HG.out.nx NO3.out)
              have HB1 := Lib.hid NO3.out.size
              have HDL : Hid ((abvTo L k).length ≤ 1000) := Lib.hid (by unfold abvTo; rw [List.length_take, HAL.out]; have := HHL.out; have := HLN.out; omega)
              clear RA1 RB1
              go_wp2_with fail
              refine wp_region_J 11 [[], [], [], [2], [], [4, 3], [3, 5, 5], [1, 6, 6], [7], [0, 8, 7], [9, 9, 0, 1, 2, 3, 4, 5, 6, 7, 8, 9]] [some 47, some 48, some 49, some 50, some 51, some 52, some 53, some 54, some 55, some 56, some 7] (J14 wo.heap.size wc u7 (.pointer (some ⟨gh, 0, none⟩)) a be H (abvTo L k))
                (by kernel_rfl) (by kernel_rfl) (hord_of (by decide)) (by kernel_rfl) rfl (by decide) ?_ ?_ ?_
              · intro x hx0
                exact ⟨fun _ => (Nx.refl wc).drew, (fun h => by cases h), (fun h => by cases h), (fun h => by cases h), (fun h => by cases h), (fun h => by cases h), (fun h => by cases h), (fun h => by cases h), (fun h => by cases h), (fun h => by cases h), (fun h => by cases h), (fun h => by cases h), (fun h => by cases h), fun _ => hx0 10 7 rfl⟩
              · rintro Lb x tm wr htm ⟨hN, F0, F1, F2, F3, F4, F5, FS, F6, F7, F8, F9, F10, F11⟩ hcl i hi hL hd late K hK
                simp only [fillA, List.setIfInBounds_toArray, List.set_cons_zero, List.set_cons_succ] at htm
                subst htm
                have c9 : Lb 9 = true → ∀ j, j < 9 → Lb j = true := fun h => by
                  have a8 := hcl 9 h 8 (by decide)
                  have a0 := hcl 9 h 0 (by decide)
                  have a7 := hcl 9 h 7 (by decide)
                  have a1 := hcl 7 a7 1 (by decide)
                  have a6 := hcl 7 a7 6 (by decide)
                  have a3 := hcl 6 a6 3 (by decide)
                  have a5 := hcl 6 a6 5 (by decide)
                  have a2 := hcl 3 a3 2 (by decide)
                  have a4 := hcl 5 a5 4 (by decide)
                  intro j hj
                  have : j = 0 ∨ j = 1 ∨ j = 2 ∨ j = 3 ∨ j = 4 ∨ j = 5 ∨ j = 6 ∨ j = 7 ∨ j = 8 := by omega
                  rcases this with rfl | rfl | rfl | rfl | rfl | rfl | rfl | rfl | rfl <;> assumption
                have h9 : i ≤ 9 → Lb 9 = false := fun hi9 => by
                  rcases h : Lb 9 with _ | _
                  · rfl
                  · rcases Nat.lt_or_ge i 9 with h1 | h1
                    · rw [c9 h i h1] at hL; cases hL
                    · obtain rfl : i = 9 := by omega
                      rw [h] at hL; cases hL
                have hcs : i = 0 ∨ i = 1 ∨ i = 2 ∨ i = 3 ∨ i = 4 ∨ i = 5 ∨ i = 6 ∨ i = 7 ∨ i = 8 ∨ i = 9 ∨ i = 10 := by omega
                clear hi
                have G9 : ∀ {w'}, i < 9 → (Lb 9 = true → OwnE elH wo.heap.size w' (x 9) (abvTo L k ++ [H]) ∧ Below wo.heap.size wc w') := fun h1 h2 => by rw [h9 (by omega)] at h2; cases h2
                rcases hcs with rfl | rfl | rfl | rfl | rfl | rfl | rfl | rfl | rfl | rfl | rfl
                · have e10 := F11 (by
                    rcases h : Lb 10 with _ | _
                    · rfl
                    · rw [hcl 10 h 0 (by decide)] at hL; cases hL)
                  refine wpOp_of rfl rfl (wp_val_of (some 47) rfl (x 10) (by kernel_rfl) (hK _ _ ⟨hN, fun _ => e10, F1, F2, F3, F4, F5, FS, F6, F7, F8, F9, F10, F11⟩))
                · exact wpOp_of rfl rfl (wp_val_of (some 48) rfl (.pointer (some ⟨gh, 0, none⟩)) (by kernel_rfl) (hK _ _ ⟨hN, F0, fun _ => rfl, F2, F3, F4, F5, FS, F6, F7, F8, F9, F10, F11⟩))
                · exact wpOp_of rfl rfl (wp_load_row_of (some 49) rfl 23 (.tmp 9) rfl gn0 rfl 23 (hcel a) _ (RA.out.nx (hN (h9 (by decide)))) Tryz.underlying23 rfl Z1.out (hK _ _ ⟨hN, F0, F1, fun _ => rfl, F3, F4, F5, FS, F6, F7, F8, F9, F10, F11⟩))
                · have n9 := h9 (by decide)
                  have e2 := F2 (hd 2 (by decide))
                  have h6 := late 6 (by decide)
                  have h5 := late 5 (by decide)
                  refine wpOp_of rfl rfl (wp_callp_of (some 50) rfl 63 #[x 2] (by kernel_rfl) (fun v w' => Own wr.heap.size w' v a) ?_ (fun v w' h1 h2 => hK v w' ⟨fun h => (hN h).trans h2, F0, F1, F2, fun _ _ => h1.mono (hN n9).size, F4, (fun h => by rw [show Lb 5 = true from h] at h5; cases h5), (fun _ h => by rw [show Lb 5 = true from h] at h5; cases h5), (fun h => by rw [show Lb 6 = true from h] at h6; cases h6), F7, (fun h k => by obtain ⟨g, q1, q2, q3⟩ := F8 h k; exact ⟨g, q1, q2, q3.nx h2⟩), G9 (by decide), F10, F11⟩))
                  rw [e2]
                  exact rlist_any a wr LA.out
                · exact wpOp_of rfl rfl (wp_load_row_of (some 51) rfl 23 (.tmp 10) rfl gn1 rfl 23 (hcel be) _ (RB.out.nx (hN (h9 (by decide)))) Tryz.underlying23 rfl ZE.out (hK _ _ ⟨hN, F0, F1, F2, F3, fun _ => rfl, F5, FS, F6, F7, F8, F9, F10, F11⟩))
                · have n9 := h9 (by decide)
                  have e4 := F4 (hd 4 (by decide))
                  have h6 := late 6 (by decide)
                  have o3 := F3 (hd 3 (by decide)) h6
                  refine wpOp_of rfl rfl (wp_callp_of (some 52) rfl 63 #[x 4] (by kernel_rfl) (fun v w' => Own wr.heap.size w' v be) ?_ (fun v w' h1 h2 => hK v w' ⟨fun h => (hN h).trans h2, F0, F1, F2, fun _ _ => o3.nx h2, F4, fun _ _ => h1.mono (hN n9).size, (fun _ _ _ q q3 q5 => by have l3 := o3.lt q q3; have l5 := h1.block q q5; omega), (fun h => by rw [show Lb 6 = true from h] at h6; cases h6), F7, (fun h k => by obtain ⟨g, q1, q2, q3⟩ := F8 h k; exact ⟨g, q1, q2, q3.nx h2⟩), G9 (by decide), F10, F11⟩))
                  rw [e4]
                  exact rlist_any be wr LB0.out
                · have n9 := h9 (by decide)
                  have h7 := late 7 (by decide)
                  have h6 : Lb 6 = false := hL
                  have h8 : Lb 8 = false := by
                    rcases h : Lb 8 with _ | _
                    · rfl
                    · rw [hcl 8 h 7 (by decide)] at h7; cases h7
                  have o3 := F3 (hd 3 (by decide)) h6
                  have o5 := F5 (hd 5 (by decide)) h6
                  refine wpOp_of rfl rfl (wp_app_of (some 53) rfl (.tmp 50) (.tmp 52) 32 rfl Tryz.underlying32 info_u8s wc.heap.size (x 3) (x 5) a be rfl rfl o3 o5.rd (by rw [LA.out, LB0.out]; decide) (hN n9).size (fun v' w' h1 h2 h3 => hK v' w' ⟨fun h => (hN h).grown h2 (fun k hk => o3.block k hk), F0, F1, F2, (fun _ h => by cases h), F4, (fun _ h => by cases h), (fun _ _ h => by cases h), fun _ _ => h1, F7, (fun h => by rw [show Lb 8 = true from h] at h8; cases h8), G9 (by decide), F10, F11⟩))
                · have n9 := h9 (by decide)
                  have h8 := late 8 (by decide)
                  have e1 := F1 (hd 1 (by decide))
                  have o6 := F6 (hd 6 (by decide)) hL
                  refine wpOp_of rfl rfl (wp_call_of (some 54) rfl 98 #[x 1, x 6] (by kernel_rfl) (.agg (hcel H)) ?_ (fun w' h2 => hK _ w' ⟨fun h => (hN h).trans h2, F0, F1, F2, fun h k => (F3 h k).nx h2, F4, fun h k => (F5 h k).nx h2, FS, (fun _ h => by cases h), fun _ => rfl, (fun h => by rw [show Lb 8 = true from h] at h8; cases h8), G9 (by decide), F10, F11⟩))
                  rw [e1, ← HIS.out]
                  exact rtwice_any gh (x 6) (a ++ be) wr (HG3.out.nx (hN n9)) o6.rd (by rw [List.length_append, LA.out, LB0.out]; decide)
                · have n9 := h9 (by decide)
                  have e7 := F7 (hd 7 (by decide))
                  refine wpOp_of rfl rfl (wp_mk_of (some 55) rfl 36 1 _ rfl #[(0, x 7)] (by kernel_rfl) _ _ (by rw [e7]; exact run_mk1h H HHJ.out wr) (hK _ _ ?_))
                  have h2 := (Nx.refl wr).alloc (.cells (hcel H) 23)
                  exact ⟨fun h => (hN h).trans h2, F0, F1, F2, fun h k => (F3 h k).nx h2, F4, fun h k => (F5 h k).nx h2, FS, fun h k => (F6 h k).nx h2, fun _ => e7, fun _ _ => ⟨_, rfl, (hN n9).size, Row.new _ _ _ _ rfl⟩, G9 (by decide), F10, F11⟩
                · have e0 := F0 (hd 0 (by decide))
                  obtain ⟨g, e8, hg, r8⟩ := F8 (hd 8 (by decide)) hL
                  have h10 := late 10 (by decide)
                  have o0 := HU3.out.nx (hN hL)
                  refine wpOp_of rfl rfl (wp_appE_of elH (some 56) rfl (.tmp 47) (.tmp 55) 36 rfl (.agg (hcel (List.replicate 32 0))) 32 Tryz.underlying36 info_hash3 info_hash3z wo.heap.size (x 0) (x 8) (abvTo L k) [H] (hfs [H]) rfl rfl (by rw [e0]; exact o0) (by rw [e8]; exact RdF.of_row1 r8 HHJ.out) (allE_hfs (H32.one HHJ.out) _ _) (by have := HDL.out; simp only [List.length_singleton]; omega) (by have := HDL.out; simp only [List.length_singleton, maxLen]; omega) (Nat.le_trans HB1.out (hN hL).size) (fun v' w' g1 g2 g3 g4 => hK v' w' ⟨(fun h => by cases h), F0, F1, F2, (fun _ h => absurd ((show Lb 6 = true from hcl 7 (hcl 8 (hd 8 (by decide)) 7 (by decide)) 6 (by decide)).symm.trans h) (by decide)), F4, (fun _ h => absurd ((show Lb 6 = true from hcl 7 (hcl 8 (hd 8 (by decide)) 7 (by decide)) 6 (by decide)).symm.trans h) (by decide)), (fun _ _ h => absurd ((show Lb 6 = true from hcl 7 (hcl 8 (hd 8 (by decide)) 7 (by decide)) 6 (by decide)).symm.trans h) (by decide)), (fun _ h => absurd ((show Lb 7 = true from hcl 8 (hd 8 (by decide)) 7 (by decide)).symm.trans h) (by decide)), F7, (fun _ h => by cases h), fun _ => ⟨g1, Below.trans (Below.mono (hN hL) HB1.out) g2⟩, (fun h => by rw [show Lb 10 = true from h] at h10; cases h10), F11⟩))
                · exact wpOp_of rfl rfl (wp_val_of (some 7) rfl (x 9) (by kernel_rfl) (hK _ _ ⟨hN, F0, F1, F2, F3, F4, F5, FS, F6, F7, F8, F9, fun _ => rfl, (fun h => by cases h)⟩))
              · rintro Lb x tm wr htm ⟨hN, F0, F1, F2, F3, F4, F5, FS, F6, F7, F8, F9, F10, F11⟩ hall
                simp only [fillA, List.setIfInBounds_toArray, List.set_cons_zero, List.set_cons_succ] at htm
                subst htm
                obtain ⟨oU, bU⟩ := F9 (hall 9 (by decide))
                have e10 := F10 (hall 10 (by decide))
                rw [e10]
                generalize x 9 = up2 at *
                clear hN F0 F1 F2 F3 F4 F5 FS F6 F7 F8 F9 F10 hall e10
                have NO4 := Lib.hid (NO3.out.app bU)
                have OU4 := Lib.hid oU
                have HKN : Hid (2 * (k : Int) + 2 = ((2 * (k + 1) : Nat) : Int)) := Lib.hid (by omega)
                clear oU bU
                go_wp2_with fail
                go_roundw
                case rel => exact ⟨k + 1, s3, by rw [HNX.out]; exact OU4, by rw [HKN.out], rfl, Lib.hid (by have := HM1.out; omega), HS4, NO4⟩
                case measure => have := hlt.out; simp [intOf]; omega
        · have hlti : ¬ ((2 * k : Nat) : Int) < (n : Int) := by omega
          obtain rfl : k = halfN n := by have := HK.out; unfold halfN at *; omega
          have HS4 : Hid (s2 = (sd && okRow L)) := Lib.hid (by rw [HS3.out, HOR.out, show min (halfN n) (n / 2) = n / 2 by unfold halfN; omega])
          have HUA : Hid (RdE elH wr u7 (abv L)) := Lib.hid (by have := HUP.out.rd; rw [HTA.out] at this; exact this)
          have HON := Lib.hid (HO.out.nx HNO.out)
          have HNN := Lib.hid (HN.out.trans HNO.out)
          have HGN := Lib.hid (HG.out.nx HNO.out)
          have HUQ : Hid (∀ p, u5.ownBlock = some p → ∀ q, u7.ownBlock = some q → q ≠ p) := Lib.hid fun p hp q hq => by
            have h1 := (HO.out.blk p hp).2
            have h2 := (HUP.out.blk q hq).1
            omega
          obtain ⟨A7, c7, hu7, -⟩ := HUA.out.h_parts
          clear hlt HS3 HK
          generalize u7 = v7 at *
          subst hu7
          have hmk := Lib.hid (fun w => run_mkr A7 (abv L).length c7 w)
          have HL7 := Lib.hid HAL.out
          have HRU := Lib.hid (rdF_one1 (.slice A7 (abv L).length c7) rfl wr 36)
          have NA := Lib.hid ((Nx.refl wr).alloc (.cells #[.slice A7 (abv L).length c7] 36))
          have HON1 := Lib.hid (HON.out.nx NA.out)
          have HNN1 := Lib.hid (HNN.out.trans NA.out)
          have HGN1 := Lib.hid (HGN.out.nx NA.out)
          have HSE : Hid (AllE elR u5.ownBlock (wr.alloc (.cells #[.slice A7 (abv L).length c7] 36)) [.slice A7 (abv L).length c7] [abv L]) := Lib.hid (AllE.single (L := elR) ⟨_, rfl, HUA.out.nx NA.out, fun _ p hp hq => HUQ.out p hp p hq rfl⟩)
          have HDL1 : Hid (D.length ≤ 1001) := Lib.hid (by have := HDL0.out; omega)
          have HGQ : Hid (∀ p, u5.ownBlock = some p → p ≠ gh) := Lib.hid fun p hp => by have := (HO.out.blk p hp).1; have := HGH.out; omega
          go_wp2_with (first | (refine wpList_mk rfl 111 1 _ rfl #[(0, .slice A7 (abv L).length c7)] (by kernel_rfl) _ (hmk.out _) ?_) | (at_builtin; refine wpList_appE2 elR rfl (.tmp 57) (.tmp 59) 111 rfl (.slice none 0 0) 24 Tryz.underlying111 info_rows rfl w1.heap.size _ (.slice (some ⟨wr.heap.size, 0, none⟩) 1 1) D [abv L] [.slice A7 (abv L).length c7] rfl rfl HON1.out HRU.out HSE.out ?e1 ?e2 HNN1.out.size ?_))
          case e1 => have := HDL1.out; try simp only [List.length_singleton]
                     omega
          case e2 => have := HDL1.out; try simp only [List.length_singleton, maxLen]
                     omega
          intro v' w' o' b' g' e'
          have HO2 := Lib.hid o'
          have HN2 := Lib.hid (HNN1.out.app b')
          have HR2 : Hid (RdA elH v'.ownBlock w' (.slice A7 (abv L).length c7) (abv L)) := Lib.hid (RdA.next (s := u5.ownBlock) (w := wr.alloc (.cells #[.slice A7 (abv L).length c7] 36)) ⟨HUA.out.nx NA.out, fun _ p hp hq => HUQ.out p hp p hq rfl⟩ g' (by rw [alloc_size]; exact e'))
          have HG2 := Lib.hid (hasGrown HGN1.out g' HGQ.out)
          clear o' b' g' e'
          go_wp2_with fail
          go_roundw
          case rel => exact ⟨abv L, D ++ [abv L], s2, HR2, HO2, rfl, Lib.hid (by rw [HAL.out]; have := HHL.out; have := HLN.out; omega), Lib.hid (by rw [List.length_append, List.length_singleton, HAL.out]; have := HHL.out; have := HDL0.out; omega), HF2, by rw [HS4.out]; exact HS2, HG2, HN2⟩
          case measure => have := HAT.out; exact this
end Go.Proofs.YtejeekbpeinioaaGreatDoor
end

section
namespace Go.Proofs.YtejeekbpeinioaaGreatDoor
open Go Go.RowKit
set_option linter.unusedVariables false
set_option linter.unusedSimpArgs false
set_option linter.unusedVariables false
set_option linter.unusedSimpArgs false

theorem rowsF_cons (l : Hs) : ∃ t, rowsF l = l :: t ∧ (l.length ≤ 1 → t = []) ∧ (¬ l.length ≤ 1 → t = rowsF (abv l)) := by
  by_cases h : l.length ≤ 1
  · exact ⟨[], rowsF_le h, fun _ => rfl, fun h2 => absurd h h2⟩
  · exact ⟨rowsF (abv l), rowsF_gt h, fun h2 => absurd h2 h, fun _ => rfl⟩
theorem rowsF_pos (l : Hs) : 0 < (rowsF l).length := by obtain ⟨t, h, _⟩ := rowsF_cons l; rw [h]; simp
theorem rowsF_last : ∀ (l : Hs), (rowsF l)[(rowsF l).length - 1]? = some (topR l) := by
  intro l
  induction hn : l.length using Nat.strongRecOn generalizing l with
  | _ n ih =>
    by_cases h1 : l.length ≤ 1
    · rw [rowsF_le h1, topR_le h1]; rfl
    · rw [rowsF_gt h1, topR_gt h1]
      have := ih _ (by rw [← hn]; exact abv_lt h1) (abv l) rfl
      have hp := rowsF_pos (abv l)
      rw [List.length_cons, Nat.add_sub_cancel]
      obtain ⟨q, hq⟩ : ∃ q, (rowsF (abv l)).length = q + 1 := ⟨_, (Nat.succ_pred_eq_of_pos hp).symm⟩
      rw [hq] at this ⊢
      simpa using this
theorem rowsF_bound : ∀ (l : Hs), (rowsF l).length ≤ l.length + 1 := by
  intro l
  induction hn : l.length using Nat.strongRecOn generalizing l with
  | _ n ih =>
    by_cases h1 : l.length ≤ 1
    · rw [rowsF_le h1]; simp
    · rw [rowsF_gt h1]
      have := ih _ (by rw [← hn]; exact abv_lt h1) (abv l) rfl
      have := abv_lt h1
      rw [List.length_cons]; omega
/-- A row that stands in a list of rows. -/
theorem RdE.row {w : World} {v : Value} {rs : List Hs} (h : RdE elR w v rs) : ∃ A c, v = .slice A rs.length c ∧ (0 < rs.length → ∃ b o, A = some ⟨b, o, none⟩ ∧ b < w.heap.size ∧ ∀ j r, rs[j]? = some r → ∃ u, w.cell? ⟨b, o + j, none⟩ = some u ∧ RdE elH w u r) := by
  obtain ⟨A, c, fs, rfl, h1, h2, h3, h4⟩ := h.parts
  refine ⟨A, c, rfl, fun hp => ?_⟩
  obtain ⟨b, o, rfl, hb, hc⟩ := h4 hp
  refine ⟨b, o, rfl, hb, fun j r hr => ?_⟩
  obtain ⟨hj, rfl⟩ := List.getElem?_eq_some_iff.1 hr
  obtain ⟨cs, hcl, ⟨u, rfl, hu⟩, hi⟩ := h3.at j hj
  obtain ⟨hf, hfe⟩ := hi 0 (by simp)
  refine ⟨u, ?_, hu.1⟩
  have hk : elR.k = 1 := rfl
  have := hc (j * elR.k + 0) hf
  rw [hfe] at this
  simpa [hk] using this

set_option maxRecDepth 100000 in
set_option maxHeartbeats 4000000 in
theorem rroot_any (v : Value) (l : Hs) (w : World) (hr : RdE elH w v l) (hn : l.length ≤ 1000) :
    Calls Tryz.prog 43 #[v] w fun e w' => e = .returned (.tuple #[.agg (hcel (rootH l)), .bool (rootB l)]) ∧ Nx w w' := by
  obtain ⟨hz, hzs⟩ := zero_of_info info_hash'
  change ∀ w, (zeroValue 23).run Tryz.prog w = .ok (.agg (hcel hZ)) w at hz
  have HRR := Lib.hid (fun W (h : Nx w W) => rrows_any v l W (hr.nx h) hn)
  have h32 := hr.h32
  have LR := Lib.hid (rootH_length h32)
  have LZ := Lib.hid hZ_length
  have HRH : Hid (rootH l = if rootB l then (topR l).getD 0 [] else hZ) := Lib.hid rfl
  have HTL : Hid (rootB l = true → (topR l).length = 1) := Lib.hid fun h => topR_length (by
    unfold rootB at h
    simp only [Bool.and_eq_true, decide_eq_true_eq] at h
    exact h.1)
  have HLA := Lib.hid (rowsF_last l)
  have HBD : Hid ((rowsF l).length ≤ 1001) := Lib.hid (by have := rowsF_bound l; omega)
  obtain ⟨q, hq⟩ : ∃ q, (rowsF l).length = q + 1 := ⟨(rowsF l).length - 1, by have := rowsF_pos l; omega⟩
  clear hr hn h32
  generalize rootH l = RH at *
  generalize rootB l = RB at *
  generalize hZ = ZZ at *
  generalize topR l = T at *
  generalize rowsF l = RF at *
  replace hq := Lib.hid hq
  have iR := Lib.hid (hashsz RH LR.out)
  have oR := Lib.hid (hashsame ZZ RH LZ.out LR.out)
  have R0 := Row.new w (hcel ZZ) 23 _ rfl
  have N0 := Lib.hid ((Nx.refl w).alloc (.cells (hcel ZZ) 23))
  go_enter Tryz.func43, Tryz.ntmps43
  go_wp2_with fail
  refine (HRR.out _ N0.out).mono ?_
  rintro e w1 ⟨v1, rfl, r1, n1⟩
  have R1 := R0.nx n1
  have N1 := Lib.hid (N0.out.trans n1)
  obtain ⟨A1, c1, rfl, hrow⟩ := r1.row
  clear r1 n1 R0 N0 HRR
  cases RB
  · have e1 : RH = ZZ := by rw [HRH.out]; rfl
    subst e1
    clear hrow
    go_wp2_with (refine wpList_store_row rfl 23 (.tmp 2) (.tmp 13) rfl w.heap.size (hcel RH) rfl rfl 23 (hcel RH) R1 iR.out rfl (hcel_one _) ?_)
    exact bodyPost_ret (results_cell_two Tryz.results43 _ _ w.heap.size 23 (hcel RH) (0, 0) _ rfl (R1.setRow _) Tryz.underlying23 rfl iR.out) rfl ⟨rfl, N1.out.setRow _ (Nat.le_refl _)⟩
  · have e1 : RH = T.getD 0 [] := by rw [HRH.out]; rfl
    have hrow2 := hrow (by rw [hq.out]; omega)
    clear hrow
    obtain ⟨b, o, rfl, hb, hrow⟩ := hrow2
    obtain ⟨u, hu, ru⟩ := hrow q T (by have := HLA.out; rw [hq.out] at this; exact this)
    obtain ⟨A2, c2, rfl, -, -, -, hcq⟩ := ru.h_parts
    have hT := HTL.out rfl
    have hcq2 := hcq (by rw [hT]; decide)
    clear hcq hrow
    obtain ⟨b2, o2, rfl, hb2, hcell⟩ := hcq2
    have C1 := Lib.hid (fun i u hu => getD_cells hcell 0 (by rw [hT]; decide) i u hu)
    rw [← e1] at C1
    simp only [Nat.zero_mul, Nat.add_zero] at C1
    rw [hq.out]
    rw [hT] at hu
    have hqb : (q : Int) ≤ 1001 := by have := HBD.out; rw [hq.out] at this; omega
    clear hcell ru hT e1 hb hb2
    have hqq : ((q + 1 : Nat) : Int) - 1 = (q : Int) := by omega
    go_wp2_with (first | (refine wpList_load_at rfl 23 (.tmp 20) rfl b2 o2 rfl (hcel RH) _ C1.out Tryz.underlying23 rfl iR.out ?_) | (refine wpList_store_row rfl 23 (.tmp 2) (.tmp 21) rfl w.heap.size (hcel RH) rfl rfl 23 (hcel ZZ) R1 iR.out oR.out (hcel_one _) ?_))
    exact bodyPost_ret (results_cell_two Tryz.results43 _ _ w.heap.size 23 (hcel RH) (0, 0) _ rfl (R1.setRow _) Tryz.underlying23 rfl iR.out) rfl ⟨rfl, N1.out.setRow _ (Nat.le_refl _)⟩
end Go.Proofs.YtejeekbpeinioaaGreatDoor
end

section
namespace Go.Proofs.YtejeekbpeinioaaGreatDoor
open Go Go.RowKit
set_option linter.unusedVariables false
set_option linter.unusedSimpArgs false
set_option linter.unusedVariables false
set_option linter.unusedSimpArgs false

theorem wp_neq_of {P : Program} {o : Oper} {a : Act} {w : World} {K : Act → World → Prop} {Q : Exit → Act → World → Prop} (dst : Option Tmp) (hd : o.dst = dst) (T : TypeId) (x y : Operand) (T' : TypeId) (ho : o.op = .binOp .neq T x y T') (X Y : Array Value)
    (hx : a.eval x = .agg X) (hy : a.eval y = .agg Y) (hgt : P.eqGuardType P.depth T = false) (b : Bool) (heq : (Op.equalIn 10000 T (.agg X) (.agg Y)).run P w = .ok b w) (h : K (a.put dst (.bool (!b))) w) : o.wp P a w K Q := by
  refine wp_val_of dst hd (.bool (!b)) ?_ h
  unfold execOp
  simp only [ho]
  have e1 : (eqGuard .neq T x y (a.eval x) (a.eval y)).run P w = .ok () w := by
    rw [hx, hy]
    simp [eqGuard, hgt, Sem.run_bind, Sem.run_pure, run_program]
  have e2 : (binOp .neq T (a.eval x) (a.eval y)).run P w = .ok (.bool (!b)) w := by
    rw [hx, hy]
    have : (Op.equal T (.agg X) (.agg Y)).run P w = .ok b w := heq
    simp [binOp, Sem.run_bind, this]
  simp only [Sem.run_bind, e1, e2, Result.andThen_ok, Sem.run_pure]

set_option maxRecDepth 100000 in
set_option maxHeartbeats 4000000 in
theorem hashes_any (v1 v2 : Value) (l1 l2 : Hs) (w : World) (r1 : RdE elH w v1 l1) (r2 : RdE elH w v2 l2) (hb : l1.length ≤ 1000000) :
    Calls Tryz.prog 16 #[v1, v2] w fun e w' => e = .returned (.bool (decide (l1 = l2))) ∧ Nx w w' := by
  have H1 := Lib.hid r1.h32
  have H2 := Lib.hid r2.h32
  obtain ⟨A1, c1, rfl, -, -, -, hq1⟩ := r1.h_parts
  obtain ⟨A2, c2, rfl, -, -, -, hq2⟩ := r2.h_parts
  clear r1 r2
  by_cases hl : l1.length = l2.length
  · rw [← hl]
    have HG : Hid (∀ k, k < l1.length → ∃ b1 o1 b2 o2, A1 = some ⟨b1, o1, none⟩ ∧ A2 = some ⟨b2, o2, none⟩ ∧ b1 < w.heap.size ∧ b2 < w.heap.size ∧ (∀ i u, (hcel (l1.getD k []))[i]? = some u → w.cell? ⟨b1, o1 + k * 32 + i, none⟩ = some u) ∧ (∀ i u, (hcel (l2.getD k []))[i]? = some u → w.cell? ⟨b2, o2 + k * 32 + i, none⟩ = some u)) := Lib.hid fun k hk => by
      obtain ⟨b1, o1, e1, hb1, hc1⟩ := hq1 (by omega)
      obtain ⟨b2, o2, e2, hb2, hc2⟩ := hq2 (by omega)
      exact ⟨b1, o1, b2, o2, e1, e2, hb1, hb2, fun i u hu => getD_cells hc1 k hk i u hu, fun i u hu => getD_cells hc2 k (by omega) i u hu⟩
    have HEQ : Hid (∀ k, k < l1.length → ((l1.take k = l2.take k ∧ l1.getD k [] = l2.getD k []) ↔ l1.take (k + 1) = l2.take (k + 1))) := Lib.hid fun k hk => by
      rw [List.take_succ_eq_append_getElem hk, List.take_succ_eq_append_getElem (show k < l2.length by omega), List.getD_eq_getElem?_getD, List.getD_eq_getElem?_getD, List.getElem?_eq_getElem hk, List.getElem?_eq_getElem (show k < l2.length by omega)]
      constructor
      · rintro ⟨h1, h2⟩
        rw [h1]
        have : l1[k] = l2[k] := h2
        rw [this]
      · intro h
        have hl1 : (l1.take k).length = (l2.take k).length := by rw [List.length_take, List.length_take]; omega
        obtain ⟨h1, h2⟩ := List.append_inj h hl1
        exact ⟨h1, by simpa using h2⟩
    have HNE : Hid (∀ k, k < l1.length → l1.getD k [] ≠ l2.getD k [] → decide (l1 = l2) = false) := Lib.hid fun k hk h => by
      simp only [decide_eq_false_iff_not]
      rintro rfl
      exact h rfl
    have HAL : Hid (l1.take l1.length = l2.take l1.length → decide (l1 = l2) = true) := Lib.hid fun h => by
      rw [List.take_of_length_le (Nat.le_refl _), List.take_of_length_le (by omega)] at h
      simp [h]
    have HL1 := Lib.hid (fun k (hk : k < l1.length) => H1.out.getD hk)
    have HL2 : Hid (∀ k, k < l1.length → (l2.getD k []).length = 32) := Lib.hid (fun k (hk : k < l1.length) => H2.out.getD (by omega))
    have hbi : (l1.length : Int) ≤ 1000000 := by omega
    clear hq1 hq2 hl hb H1 H2
    generalize hD : decide (l1 = l2) = D at *
    clear hD
    generalize l1.length = n at *
    have hne : ((n : Int) != (n : Int)) = false := by simp
    go_enter Tryz.func16, Tryz.ntmps16
    go_wp2_with fail
    go_loopw [5] (fun i wr => ∃ k : Nat, i = .int .i64 (k : Int) ∧ Hid (k ≤ n) ∧ Hid (l1.take k = l2.take k) ∧ Hid (Nx w wr)) (fun i _ => n - (intOf i).toNat)
    case atStart => exact ⟨0, rfl, Lib.hid (Nat.zero_le _), Lib.hid (by rw [List.take_zero, List.take_zero]), Lib.hid (Nx.refl w)⟩
    case round =>
      obtain ⟨k, rfl, hk, HT, HN⟩ := hrel
      by_cases hlt : k < n
      · have hlti : (k : Int) < (n : Int) := by omega
        obtain ⟨b1, o1, b2, o2, rfl, rfl, hb1, hb2, hc1, hc2⟩ := HG.out k hlt
        have C1 : Hid (∀ wr', Nx w wr' → ∀ i u, (hcel (l1.getD k []))[i]? = some u → wr'.cell? ⟨b1, o1 + k * 32 + i, none⟩ = some u) := Lib.hid fun wr' hx i u hu => (hx.cell (p := ⟨b1, o1 + k * 32 + i, none⟩) hb1).trans (hc1 i u hu)
        have C2 : Hid (∀ wr', Nx w wr' → ∀ i u, (hcel (l2.getD k []))[i]? = some u → wr'.cell? ⟨b2, o2 + k * 32 + i, none⟩ = some u) := Lib.hid fun wr' hx i u hu => (hx.cell (p := ⟨b2, o2 + k * 32 + i, none⟩) hb2).trans (hc2 i u hu)
        have L1 := Lib.hid (HL1.out k hlt)
        have L2 := Lib.hid (HL2.out k hlt)
        have HQ := Lib.hid (HEQ.out k hlt)
        have HQN := Lib.hid (HNE.out k hlt)
        clear hc1 hc2 hb1 hb2
        generalize l1.getD k [] = h1 at *
        generalize l2.getD k [] = h2 at *
        have Z1 := Lib.hid (hashsz h1 L1.out)
        have Z2 := Lib.hid (hashsz h2 L2.out)
        have EQ := Lib.hid (fun w => eq_hash2 h1 h2 L1.out L2.out w)
        replace hlt := Lib.hid hlt
        go_wp2_with fail
        refine wp_region_nx 9 [[], [], [0, 1], [2], [], [], [4, 5], [6], [3, 7]] [some 17, some 18, some 19, some 20, some 21, some 22, some 23, some 24, some 25]
          [.eq (.slice (some ⟨b1, o1, none⟩) n c1), .eq (.int .i64 (k : Int)), .eq (.pointer (some ⟨b1, o1 + k * 32, none⟩)), .eq (.agg (hcel h1)), .eq (.slice (some ⟨b2, o2, none⟩) n c2), .eq (.int .i64 (k : Int)), .eq (.pointer (some ⟨b2, o2 + k * 32, none⟩)), .eq (.agg (hcel h2)), .eq (.bool (!decide (h1 = h2)))]
          (by kernel_rfl) (by kernel_rfl) (hord_of (by decide)) (by kernel_rfl) (by decide) (by decide) (htail_of (by decide)) ?_ _ (by rfl) ?_
        · intro x tm wr htm hx i hi hd K hK
          simp only [fillA, List.setIfInBounds_toArray, List.set_cons_zero, List.set_cons_succ] at htm
          subst htm
          have hcs : i = 0 ∨ i = 1 ∨ i = 2 ∨ i = 3 ∨ i = 4 ∨ i = 5 ∨ i = 6 ∨ i = 7 ∨ i = 8 := by omega
          clear hi
          rcases hcs with rfl | rfl | rfl | rfl | rfl | rfl | rfl | rfl | rfl
          · exact wpOp_of rfl rfl (wp_val_of (some 17) rfl (.slice (some ⟨b1, o1, none⟩) n c1) (by kernel_rfl) (hK _ _ rfl (Nx.refl _)))
          · exact wpOp_of rfl rfl (wp_val_of (some 18) rfl (.int .i64 (k : Int)) (by kernel_rfl) (hK _ _ rfl (Nx.refl _)))
          · have e0 : x 0 = .slice (some ⟨b1, o1, none⟩) n c1 := hd 0 (by decide)
            have e1 : x 1 = .int .i64 (k : Int) := hd 1 (by decide)
            generalize x 0 = y0 at e0 hK ⊢
            subst e0
            generalize x 1 = y1 at e1 hK ⊢
            subst e1
            exact wpOp_of rfl rfl (wp_ix_ofh (some 19) rfl 36 23 (.tmp 17) (.tmp 18) rfl Tryz.underlying36 32 Tryz.sizeOf23 b1 o1 n c1 k (k : Int) rfl rfl rfl hlt.out (hK _ _ rfl (Nx.refl _)))
          · have e2 : x 2 = .pointer (some ⟨b1, o1 + k * 32, none⟩) := hd 2 (by decide)
            generalize x 2 = y2 at e2 hK ⊢
            subst e2
            exact wpOp_of rfl rfl (wp_load_at (some 20) rfl 23 (.tmp 19) rfl b1 (o1 + k * 32) rfl (hcel h1) _ (C1.out wr (HN.out.trans hx)) Tryz.underlying23 rfl Z1.out (hK _ _ rfl (Nx.refl _)))
          · exact wpOp_of rfl rfl (wp_val_of (some 21) rfl (.slice (some ⟨b2, o2, none⟩) n c2) (by kernel_rfl) (hK _ _ rfl (Nx.refl _)))
          · exact wpOp_of rfl rfl (wp_val_of (some 22) rfl (.int .i64 (k : Int)) (by kernel_rfl) (hK _ _ rfl (Nx.refl _)))
          · have e4 : x 4 = .slice (some ⟨b2, o2, none⟩) n c2 := hd 4 (by decide)
            have e5 : x 5 = .int .i64 (k : Int) := hd 5 (by decide)
            generalize x 4 = y4 at e4 hK ⊢
            subst e4
            generalize x 5 = y5 at e5 hK ⊢
            subst e5
            exact wpOp_of rfl rfl (wp_ix_ofh (some 23) rfl 36 23 (.tmp 21) (.tmp 22) rfl Tryz.underlying36 32 Tryz.sizeOf23 b2 o2 n c2 k (k : Int) rfl rfl rfl hlt.out (hK _ _ rfl (Nx.refl _)))
          · have e6 : x 6 = .pointer (some ⟨b2, o2 + k * 32, none⟩) := hd 6 (by decide)
            generalize x 6 = y6 at e6 hK ⊢
            subst e6
            exact wpOp_of rfl rfl (wp_load_at (some 24) rfl 23 (.tmp 23) rfl b2 (o2 + k * 32) rfl (hcel h2) _ (C2.out wr (HN.out.trans hx)) Tryz.underlying23 rfl Z2.out (hK _ _ rfl (Nx.refl _)))
          · have e3 : x 3 = .agg (hcel h1) := hd 3 (by decide)
            have e7 : x 7 = .agg (hcel h2) := hd 7 (by decide)
            generalize x 3 = y3 at e3 hK ⊢
            subst e3
            generalize x 7 = y7 at e7 hK ⊢
            subst e7
            exact wpOp_of rfl rfl (wp_neq_of (some 25) rfl 23 _ _ _ rfl (hcel h1) (hcel h2) rfl rfl (by kernel_rfl) (decide (h1 = h2)) (EQ.out wr) (hK _ _ rfl (Nx.refl _)))
        · intro x tm wr htm hx hv
          simp only [fillA, List.setIfInBounds_toArray, List.set_cons_zero, List.set_cons_succ] at htm
          subst htm
          have e8 : x 8 = .bool (!decide (h1 = h2)) := hv 8 (by decide)
          rw [e8]
          refine wpList_nil ?_
          have NQ := Lib.hid (HN.out.trans hx)
          clear hv C1 C2
          by_cases hh : h1 = h2
          · have hd : decide (h1 = h2) = true := by simp [hh]
            have HT2 := Lib.hid (HQ.out.1 ⟨HT.out, hh⟩)
            rw [hd]
            clear hh hd
            go_wp2_with fail
            go_roundw
            case rel => exact ⟨k + 1, by go_num, Lib.hid (by have := hlt.out; omega), HT2, NQ⟩
            case measure => have := hlt.out; simp [intOf]; omega
          · have hd : decide (h1 = h2) = false := by simp [hh]
            have hD := Lib.hid (HQN.out hh)
            rw [hd]
            clear hh hd
            go_wp2_with fail
            go_ret
            exact ⟨by rw [hD.out]; rfl, NQ.out⟩
      · have hkn : k = n := by have := hk.out; omega
        subst hkn
        have hD := Lib.hid (HAL.out HT.out)
        clear hlt
        go_wp2_with fail
        go_ret
        exact ⟨by rw [hD.out]; rfl, HN.out⟩
  · have hne : ((l1.length : Int) != (l2.length : Int)) = true := by simp; omega
    have hD : Hid (decide (l1 = l2) = false) := Lib.hid (by simp; rintro rfl; exact hl rfl)
    generalize decide (l1 = l2) = D at *
    clear hq1 hq2 hl hb H1 H2
    generalize l1.length = n1 at *
    generalize l2.length = n2 at *
    go_enter Tryz.func16, Tryz.ntmps16
    go_wp2_with fail
    go_ret
    exact ⟨by rw [hD.out]; rfl, Nx.refl w⟩

end Go.Proofs.YtejeekbpeinioaaGreatDoor
end
