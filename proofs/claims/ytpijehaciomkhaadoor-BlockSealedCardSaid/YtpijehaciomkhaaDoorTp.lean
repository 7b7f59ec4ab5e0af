/- TEXTS OF OUR OWN, IN ONE FILE. -/
import Derived.Test.YtpijehaciomkhaaDoorTo
import Derived.Test.YtpijehaciomkhaaDoorTm
section
namespace Go.Proofs.YtpijehaciomkhaaDoor
open Go Go.RowKit
set_option linter.unusedVariables false
set_option linter.unusedSimpArgs false
set_option linter.unusedVariables false
set_option linter.unusedSimpArgs false

theorem own_setRow_ne {B g : Nat} {w : World} {v : Value} {l : List UInt8} {cs : Array Value} (h : Own B w v l) (hg : ∀ q, v.ownBlock = some q → q ≠ g) : Own B (w.setRow g cs) v l := by
  rcases h with h2 | ⟨q, full, rfl, hb, hh, rest⟩
  · exact .inl h2
  · exact .inr ⟨q, full, rfl, hb, by rw [setRow_other _ _ _ _ (hg q (by simp [Value.ownBlock]))]; exact hh, rest⟩
theorem own_blk {B : Nat} {w : World} {v : Value} {l : List UInt8} (h : Own B w v l) : ∀ q, v.ownBlock = some q → B ≤ q ∧ q < w.heap.size := by
  intro q hq
  rcases h with ⟨rfl, _⟩ | ⟨g, full, rfl, hb, hh, rest⟩
  · simp [Value.ownBlock] at hq
  · obtain rfl : g = q := by simpa [Value.ownBlock] using hq
    exact ⟨hb, (Array.getElem?_eq_some_iff.1 hh).1⟩
theorem oc_one {B : Nat} {w : World} {v : Nat} {u : Value} {l : List UInt8} (h : Own B w u l) : (#[.int .u64 (v : Int), u] : Array Value).all (·.oneCell') = true := by
  obtain ⟨A, c, rfl, -⟩ := h.rd
  rw [Array.all_eq_true']
  intro x hx
  simp at hx
  rcases hx with rfl | rfl <;> rfl
theorem gr_newCell {w W : World} {s : Option Nat} {g i : Nat} {v : Value} (h : w.grownBy W s) (hg : w.heap.size ≤ g) : w.grownBy (W.setCell ⟨g, i, none⟩ v) s :=
  ⟨h.os, h.tape, h.output, by rw [setCell_size]; exact h.size, fun k hk hne => by
    have hk2 : g ≠ k := by omega
    have e : (W.setCell ⟨g, i, none⟩ v).heap[k]? = W.heap[k]? := by simp [World.setCell, Array.getElem?_modify, hk2]
    rw [e]; exact h.block k hk hne⟩
/-- What the operations of the region give. -/
def FVo (r : Nat) (bs : Value) (at_ : Int) (V : Nat) (P E : Int) (lk : Value) (ga : Nat) (i : Nat) : Value :=
  match i with
  | 0 => .pointer (some ⟨r, 0, none⟩)
  | 1 => .pointer (some ⟨r, 0, none⟩)
  | 2 => .pointer (some ⟨r, 0, none⟩)
  | 3 => bs
  | 4 => .pointer (some ⟨r, 0, none⟩)
  | 5 => .pointer (some ⟨r, 0, none⟩)
  | 6 => .pointer (some ⟨r, 1, none⟩)
  | 7 => .int .i64 at_
  | 8 => .tuple #[.agg #[.int .u64 (V : Int), lk], .int .i64 P, .int .i64 E]
  | 9 => .tuple #[.agg #[.int .u64 (V : Int), lk], .int .i64 P, .int .i64 E]
  | 10 => .agg #[.int .u64 (V : Int), lk]
  | 11 => .int .i64 P
  | 12 => .int .i64 E
  | 13 => .pointer (some ⟨ga, 0, none⟩)
  | 14 => undef
  | 15 => .int .i64 P
  | 16 => .int .i64 E
  | _ => undef
def ocb (b : Bool) (V : Nat) (lk : Value) : Array Value := match b with
  | true => #[.int .u64 (V : Int), lk]
  | false => #[.int .u64 0, .slice none 0 0]
def JO (W0 : World) (r : Nat) (bs : Value) (at_ : Int) (V : Nat) (P E : Int) (LK : List UInt8) (L : Nat → Bool) (x : Nat → Value) (wr : World) : Prop :=
  ∃ lk ga, (∀ j, j ≠ 14 → L j = true → x j = FVo r bs at_ V P E lk ga j) ∧ Nx W0 wr ∧ (L 8 = true → Own W0.heap.size wr lk LK ∧ (L 13 = true → ∀ q, lk.ownBlock = some q → q ≠ ga)) ∧
    (L 13 = true → W0.heap.size ≤ ga ∧ Row wr ga (ocb (L 14) V lk) 48)
section
variable {W0 wr w' : World} {r V ga : Nat} {bs lk lk' : Value} {at_ P E : Int} {LK : List UInt8} {L : Nat → Bool} {x : Nat → Value}
theorem jo_pure (i : Nat) (i8 : i ≠ 8) (i13 : i ≠ 13) (i14 : i ≠ 14) (h1 : ∀ j, j ≠ 14 → L j = true → x j = FVo r bs at_ V P E lk ga j) (h2 : Nx W0 wr) (h3 : L 8 = true → Own W0.heap.size wr lk LK ∧ (L 13 = true → ∀ q, lk.ownBlock = some q → q ≠ ga))
    (h4 : L 13 = true → W0.heap.size ≤ ga ∧ Row wr ga (ocb (L 14) V lk) 48) :
    JO W0 r bs at_ V P E LK (fun j => j == i || L j) (upd x i (FVo r bs at_ V P E lk ga i)) wr := by
  refine ⟨lk, ga, fun j hj hl => ?_, h2, fun h => ?_, fun h => ?_⟩ <;> dsimp only at *
  · by_cases hji : j = i
    · subst hji; rw [upd_eq]
    · rw [upd_ne _ _ hji]; exact h1 j hj (by rwa [or_ne hji] at hl)
  · rw [or_ne (Ne.symm i8)] at h
    rw [or_ne (Ne.symm i13)]
    exact h3 h
  · rw [or_ne (Ne.symm i13)] at h
    rw [or_ne (Ne.symm i14)]
    exact h4 h
theorem jo_call (l9 : L 9 = false) (l10 : L 10 = false) (l14 : L 14 = false) (h1 : ∀ j, j ≠ 14 → L j = true → x j = FVo r bs at_ V P E lk ga j) (h2 : Nx W0 wr)
    (h4 : L 13 = true → W0.heap.size ≤ ga ∧ Row wr ga (ocb (L 14) V lk) 48)
    (q2 : Own wr.heap.size w' lk' LK) (q3 : Nx wr w') (h8 : L 8 = false) :
    JO W0 r bs at_ V P E LK (fun j => j == 8 || L j) (upd x 8 (FVo r bs at_ V P E lk' ga 8)) w' := by
  refine ⟨lk', ga, fun j hj hl => ?_, h2.trans q3, fun h => ?_, fun h => ?_⟩ <;> dsimp only at *
  · by_cases hji : j = 8
    · subst hji; rw [upd_eq]
    · rw [upd_ne _ _ hji]
      have hlj : L j = true := by rwa [or_ne hji] at hl
      rw [h1 j hj hlj]
      by_cases j9 : j = 9
      · subst j9; rw [l9] at hlj; cases hlj
      · by_cases j10 : j = 10
        · subst j10; rw [l10] at hlj; cases hlj
        · unfold FVo
          split <;> first | rfl | omega
  · refine ⟨q2.mono h2.size, fun h13 q hq => ?_⟩
    rw [or_ne (by decide)] at h13
    have := (h4 h13).2.lt
    have := (own_blk q2 q hq).1
    omega
  · rw [or_ne (by decide)] at h
    rw [or_ne (by decide)]
    obtain ⟨a1, a2⟩ := h4 h
    rw [l14] at a2 ⊢
    exact ⟨a1, a2.nx q3⟩
theorem jo_alloc (l14 : L 14 = false) (h1 : ∀ j, j ≠ 14 → L j = true → x j = FVo r bs at_ V P E lk ga j) (h2 : Nx W0 wr) (h3 : L 8 = true → Own W0.heap.size wr lk LK ∧ (L 13 = true → ∀ q, lk.ownBlock = some q → q ≠ ga)) :
    JO W0 r bs at_ V P E LK (fun j => j == 13 || L j) (upd x 13 (.pointer (some ⟨wr.heap.size, 0, none⟩))) (wr.alloc (.cells #[.int .u64 0, .slice none 0 0] 48)) := by
  refine ⟨lk, wr.heap.size, fun j hj hl => ?_, h2.alloc _, fun h => ?_, fun h => ?_⟩ <;> dsimp only at *
  · by_cases hji : j = 13
    · subst hji; rw [upd_eq]; rfl
    · rw [upd_ne _ _ hji]
      rw [h1 j hj (by rwa [or_ne hji] at hl)]
      unfold FVo
      split <;> first | rfl | omega
  · rw [or_ne (by decide)] at h
    refine ⟨(h3 h).1.alloc _, fun _ q hq => ?_⟩
    have := (own_blk (h3 h).1 q hq).2
    omega
  · rw [or_ne (by decide), l14]
    exact ⟨h2.size, Row.new _ _ _ _ rfl⟩
theorem jo_store (l8 : L 8 = true) (l13 : L 13 = true) (l14 : L 14 = false) (h1 : ∀ j, j ≠ 14 → L j = true → x j = FVo r bs at_ V P E lk ga j) (h2 : Nx W0 wr) (h3 : Own W0.heap.size wr lk LK ∧ (L 13 = true → ∀ q, lk.ownBlock = some q → q ≠ ga))
    (h4 : W0.heap.size ≤ ga ∧ Row wr ga (ocb false V lk) 48) :
    JO W0 r bs at_ V P E LK (fun j => j == 14 || L j) (upd x 14 undef) (wr.setRow ga #[.int .u64 (V : Int), lk]) := by
  refine ⟨lk, ga, fun j hj hl => ?_, h2.setRow _ h4.1, fun h => ?_, fun h => ?_⟩ <;> dsimp only at *
  · rw [upd_ne _ _ hj]; exact h1 j hj (by rwa [or_ne hj] at hl)
  · exact ⟨own_setRow_ne h3.1 (h3.2 l13), fun _ => h3.2 l13⟩
  · rw [or_eq]
    exact ⟨h4.1, h4.2.setRow _⟩
end
/-- What a reader reads as an output. -/
def otT (l : List UInt8) (at_ : Int) : Outp × Int × Int := if (goT l at_).2.2.2 ≠ 0 then (⟨0, []⟩, at_, (goT l at_).2.2.2) else (⟨(goT l at_).1, (goT l at_).2.1⟩, (goT l at_).2.2.1, 0)
set_option maxRecDepth 100000 in
set_option maxHeartbeats 8000000 in
theorem tout_any (r : Nat) (bs : Value) (l : List UInt8) (at_ : Int) (w : World) (R : Row w r (rdcs bs at_) 100) (h : RdS (some r) w bs l) (hl : l.length ≤ 140737488355328) :
    Calls Tryd.prog 43 #[.pointer (some ⟨r, 0, none⟩)] w fun e w' => ∃ uv, e = .returned (.tuple #[.agg (ocel (otT l at_).1 uv), .int .i64 (otT l at_).2.2]) ∧ Own w.heap.size w' uv (otT l at_).1.l ∧ Row w' r (rdcs bs (otT l at_).2.1) 100 ∧ w.grownBy w' (some r) := by
  have HP := Lib.hid (fun w h => getOut_any bs l at_ w h hl)
  have HB := Lib.hid (h.1.nx ((Nx.refl w).alloc (.cells #[.int .u64 0, .slice none 0 0] 48)))
  obtain ⟨A, c, rfl⟩ := h.sl
  have hrl : r < w.heap.size := R.lt
  have R2 := Lib.hid (Row.new w #[.int .u64 0, .slice none 0 0] 48 _ rfl)
  have RR := Lib.hid (R.alloc (.cells #[.int .u64 0, .slice none 0 0] 48))
  have N0 := Lib.hid ((Nx.refl w).alloc (.cells #[.int .u64 0, .slice none 0 0] 48))
  obtain ⟨hz2, hzs2⟩ := zero_of_info info_out
  have HHS := Lib.hid (show (w.alloc (.cells #[.int .u64 0, .slice none 0 0] 48)).heap.size = w.heap.size + 1 by simp)
  have cz := Lib.hid outsz
  unfold otT
  generalize hg : goT l at_ = T at *
  clear R h hg
  obtain ⟨V, LK, P, E⟩ := T
  dsimp only at *
  by_cases hE : E = 0
  · rw [if_neg (by simp [hE])]
    have HE := Lib.hid hE
    clear hE
    go_enter Tryd.func43, Tryd.ntmps43
    go_wp2_with fail
    generalize (w.alloc (.cells #[.int .u64 0, .slice none 0 0] 48)) = W0 at *
    refine wp_region_J 17 [[], [0], [1], [2], [], [4], [5], [6], [3, 7], [8], [9], [9], [9], [], [13, 10, 8, 0, 1, 2, 3, 4, 5, 6, 7, 8, 9, 10, 13], [11, 14, 0, 1, 2, 3, 4, 5, 6, 7, 8, 9, 10, 11, 13, 14], [12, 15, 0, 1, 2, 3, 4, 5, 6, 7, 8, 9, 10, 11, 12, 13, 14, 15]] [some 8, some 9, some 10, some 11, some 12, some 13, some 14, some 15, some 16, some 7, some 17, some 18, some 19, some 4, none, some 5, some 6] (JO W0 r (.slice A l.length c) at_ V P E LK)
      (by kernel_rfl) (by kernel_rfl) (hord_of (by decide)) (by kernel_rfl) (by decide) (by decide) ?_ ?_ ?_
    · intro x _
      exact ⟨undef, 0, fun j _ h => (by cases h), (Nx.refl _).drew, fun h => (by cases h), fun h => (by cases h)⟩
    · intro L x tm wr htm hJ hcl i hi hi0 hd hlate K hK
      obtain ⟨lk, ga, h1, h2, h3, h4⟩ := hJ
      simp only [fillA, List.setIfInBounds_toArray, List.set_cons_zero, List.set_cons_succ] at htm
      subst htm
      have hcs : i = 0 ∨ i = 1 ∨ i = 2 ∨ i = 3 ∨ i = 4 ∨ i = 5 ∨ i = 6 ∨ i = 7 ∨ i = 8 ∨ i = 9 ∨ i = 10 ∨ i = 11 ∨ i = 12 ∨ i = 13 ∨ i = 14 ∨ i = 15 ∨ i = 16 := by omega
      clear hi
      rcases hcs with rfl | rfl | rfl | rfl | rfl | rfl | rfl | rfl | rfl | rfl | rfl | rfl | rfl | rfl | rfl | rfl | rfl
      · exact wpOp_of rfl rfl (wp_val_of (some 8) rfl (.pointer (some ⟨r, 0, none⟩)) (by kernel_rfl) (hK _ _ (jo_pure 0 (by decide) (by decide) (by decide) h1 h2 h3 h4)))
      · have e0 : x 0 = .pointer (some ⟨r, 0, none⟩) := h1 0 (by decide) (hd 0 (by decide))
        generalize x 0 = y0 at e0 hK ⊢
        subst e0
        exact wpOp_of rfl rfl (wp_val_of (some 9) rfl (.pointer (some ⟨r, 0, none⟩)) (by kernel_rfl) (hK _ _ (jo_pure 1 (by decide) (by decide) (by decide) h1 h2 h3 h4)))
      · have e1 : x 1 = .pointer (some ⟨r, 0, none⟩) := h1 1 (by decide) (hd 1 (by decide))
        generalize x 1 = y1 at e1 hK ⊢
        subst e1
        exact wpOp_of rfl rfl (wp_val_of (some 10) rfl (.pointer (some ⟨r, 0, none⟩)) (by kernel_rfl) (hK _ _ (jo_pure 2 (by decide) (by decide) (by decide) h1 h2 h3 h4)))
      · have e2 : x 2 = .pointer (some ⟨r, 0, none⟩) := h1 2 (by decide) (hd 2 (by decide))
        generalize x 2 = y2 at e2 hK ⊢
        subst e2
        exact wpOp_of rfl rfl (wp_load_cell (some 11) rfl 43 (.tmp 10) rfl r 0 rfl (.slice A l.length c) _ ((Row.nx RR.out h2).cell (i := 0) rfl) Tryd.underlying43 rfl (hK _ _ (jo_pure 3 (by decide) (by decide) (by decide) h1 h2 h3 h4)))
      · exact wpOp_of rfl rfl (wp_val_of (some 12) rfl (.pointer (some ⟨r, 0, none⟩)) (by kernel_rfl) (hK _ _ (jo_pure 4 (by decide) (by decide) (by decide) h1 h2 h3 h4)))
      · have e4 : x 4 = .pointer (some ⟨r, 0, none⟩) := h1 4 (by decide) (hd 4 (by decide))
        generalize x 4 = y4 at e4 hK ⊢
        subst e4
        exact wpOp_of rfl rfl (wp_val_of (some 13) rfl (.pointer (some ⟨r, 0, none⟩)) (by kernel_rfl) (hK _ _ (jo_pure 5 (by decide) (by decide) (by decide) h1 h2 h3 h4)))
      · have e5 : x 5 = .pointer (some ⟨r, 0, none⟩) := h1 5 (by decide) (hd 5 (by decide))
        generalize x 5 = y5 at e5 hK ⊢
        subst e5
        exact wpOp_of rfl rfl (wp_val_of (some 14) rfl (.pointer (some ⟨r, 1, none⟩)) (by kernel_rfl) (hK _ _ (jo_pure 6 (by decide) (by decide) (by decide) h1 h2 h3 h4)))
      · have e6 : x 6 = .pointer (some ⟨r, 1, none⟩) := h1 6 (by decide) (hd 6 (by decide))
        generalize x 6 = y6 at e6 hK ⊢
        subst e6
        exact wpOp_of rfl rfl (wp_load_cell (some 15) rfl 3 (.tmp 14) rfl r 1 rfl (.int .i64 at_) _ ((Row.nx RR.out h2).cell (i := 1) rfl) Tryd.underlying3 rfl (hK _ _ (jo_pure 7 (by decide) (by decide) (by decide) h1 h2 h3 h4)))
      · have e3 : x 3 = .slice A l.length c := h1 3 (by decide) (hd 3 (by decide))
        have e7 : x 7 = .int .i64 at_ := h1 7 (by decide) (hd 7 (by decide))
        generalize x 3 = y3 at e3 hK ⊢
        subst e3
        generalize x 7 = y7 at e7 hK ⊢
        subst e7
        have l9 : L 9 = false := hlate 9 (by decide)
        have l14 : L 14 = false := hlate 14 (by decide)
        have l10 : L 10 = false := by
          rcases hq : L 10 with _ | _
          · rfl
          · have := hcl 10 hq 9 (by decide); rw [l9] at this; cases this
        refine wpOp_of rfl rfl (wp_callp_of (some 16) rfl 60 #[.slice A l.length c, .int .i64 at_] (by kernel_rfl) (fun v w' => ∃ lk, v = .tuple #[.agg #[.int .u64 (V : Int), lk], .int .i64 P, .int .i64 E] ∧ Own wr.heap.size w' lk LK) ((HP.out wr (HB.out.nx h2)).mono fun e w' ⟨lk', q1, q2, q3⟩ => ⟨_, q1, ⟨lk', rfl, q2⟩, q3⟩) ?_)
        rintro v w' ⟨lk', rfl, q2⟩ q3
        exact hK _ _ (jo_call l9 l10 l14 h1 h2 h4 q2 q3 hi0)
      · have e8 : x 8 = .tuple #[.agg #[.int .u64 (V : Int), lk], .int .i64 P, .int .i64 E] := h1 8 (by decide) (hd 8 (by decide))
        generalize x 8 = y8 at e8 hK ⊢
        subst e8
        exact wpOp_of rfl rfl (wp_val_of (some 7) rfl (.tuple #[.agg #[.int .u64 (V : Int), lk], .int .i64 P, .int .i64 E]) (by kernel_rfl) (hK _ _ (jo_pure 9 (by decide) (by decide) (by decide) h1 h2 h3 h4)))
      · have e9 : x 9 = .tuple #[.agg #[.int .u64 (V : Int), lk], .int .i64 P, .int .i64 E] := h1 9 (by decide) (hd 9 (by decide))
        generalize x 9 = y9 at e9 hK ⊢
        subst e9
        exact wpOp_of rfl rfl (wp_val_of (some 17) rfl (.agg #[.int .u64 (V : Int), lk]) (by kernel_rfl) (hK _ _ (jo_pure 10 (by decide) (by decide) (by decide) h1 h2 h3 h4)))
      · have e9 : x 9 = .tuple #[.agg #[.int .u64 (V : Int), lk], .int .i64 P, .int .i64 E] := h1 9 (by decide) (hd 9 (by decide))
        generalize x 9 = y9 at e9 hK ⊢
        subst e9
        exact wpOp_of rfl rfl (wp_val_of (some 18) rfl (.int .i64 P) (by kernel_rfl) (hK _ _ (jo_pure 11 (by decide) (by decide) (by decide) h1 h2 h3 h4)))
      · have e9 : x 9 = .tuple #[.agg #[.int .u64 (V : Int), lk], .int .i64 P, .int .i64 E] := h1 9 (by decide) (hd 9 (by decide))
        generalize x 9 = y9 at e9 hK ⊢
        subst e9
        exact wpOp_of rfl rfl (wp_val_of (some 19) rfl (.int .i64 E) (by kernel_rfl) (hK _ _ (jo_pure 12 (by decide) (by decide) (by decide) h1 h2 h3 h4)))
      · have l14 : L 14 = false := hlate 14 (by decide)
        exact wpOp_of rfl rfl (wp_alloc_of (some 4) rfl 48 rfl (#[.int .u64 0, .slice none 0 0]) hz2 (hK _ _ (jo_alloc l14 h1 h2 h3)))
      · have e13 : x 13 = .pointer (some ⟨ga, 0, none⟩) := h1 13 (by decide) (hd 13 (by decide))
        have e10 : x 10 = .agg #[.int .u64 (V : Int), lk] := h1 10 (by decide) (hd 10 (by decide))
        generalize x 13 = y13 at e13 hK ⊢
        subst e13
        generalize x 10 = y10 at e10 hK ⊢
        subst e10
        have h4b := h4 (hd 13 (by decide))
        have h3b := h3 (hd 8 (by decide))
        rw [hi0] at h4b
        exact wpOp_of rfl rfl (wp_store_row 48 (.tmp 4) (.tmp 17) rfl ga (#[.int .u64 (V : Int), lk]) rfl rfl 48 (#[.int .u64 0, .slice none 0 0]) h4b.2 outsz rfl (oc_one h3b.1) (hK _ _ (jo_store (hd 8 (by decide)) (hd 13 (by decide)) hi0 h1 h2 h3b h4b)))
      · have e11 : x 11 = .int .i64 P := h1 11 (by decide) (hd 11 (by decide))
        generalize x 11 = y11 at e11 hK ⊢
        subst e11
        exact wpOp_of rfl rfl (wp_val_of (some 5) rfl (.int .i64 P) (by kernel_rfl) (hK _ _ (jo_pure 15 (by decide) (by decide) (by decide) h1 h2 h3 h4)))
      · have e12 : x 12 = .int .i64 E := h1 12 (by decide) (hd 12 (by decide))
        generalize x 12 = y12 at e12 hK ⊢
        subst e12
        exact wpOp_of rfl rfl (wp_val_of (some 6) rfl (.int .i64 E) (by kernel_rfl) (hK _ _ (jo_pure 16 (by decide) (by decide) (by decide) h1 h2 h3 h4)))
    · intro L x tm wr htm hJ hall
      obtain ⟨lk, ga, h1, h2, h3, h4⟩ := hJ
      simp only [fillA, List.setIfInBounds_toArray, List.set_cons_zero, List.set_cons_succ] at htm
      subst htm
      have e0 : x 0 = .pointer (some ⟨r, 0, none⟩) := h1 0 (by decide) (hall 0 (by decide))
      rw [e0]
      have e1 : x 1 = .pointer (some ⟨r, 0, none⟩) := h1 1 (by decide) (hall 1 (by decide))
      rw [e1]
      have e2 : x 2 = .pointer (some ⟨r, 0, none⟩) := h1 2 (by decide) (hall 2 (by decide))
      rw [e2]
      have e3 : x 3 = .slice A l.length c := h1 3 (by decide) (hall 3 (by decide))
      rw [e3]
      have e4 : x 4 = .pointer (some ⟨r, 0, none⟩) := h1 4 (by decide) (hall 4 (by decide))
      rw [e4]
      have e5 : x 5 = .pointer (some ⟨r, 0, none⟩) := h1 5 (by decide) (hall 5 (by decide))
      rw [e5]
      have e6 : x 6 = .pointer (some ⟨r, 1, none⟩) := h1 6 (by decide) (hall 6 (by decide))
      rw [e6]
      have e7 : x 7 = .int .i64 at_ := h1 7 (by decide) (hall 7 (by decide))
      rw [e7]
      have e8 : x 8 = .tuple #[.agg #[.int .u64 (V : Int), lk], .int .i64 P, .int .i64 E] := h1 8 (by decide) (hall 8 (by decide))
      rw [e8]
      have e9 : x 9 = .tuple #[.agg #[.int .u64 (V : Int), lk], .int .i64 P, .int .i64 E] := h1 9 (by decide) (hall 9 (by decide))
      rw [e9]
      have e10 : x 10 = .agg #[.int .u64 (V : Int), lk] := h1 10 (by decide) (hall 10 (by decide))
      rw [e10]
      have e11 : x 11 = .int .i64 P := h1 11 (by decide) (hall 11 (by decide))
      rw [e11]
      have e12 : x 12 = .int .i64 E := h1 12 (by decide) (hall 12 (by decide))
      rw [e12]
      have e13 : x 13 = .pointer (some ⟨ga, 0, none⟩) := h1 13 (by decide) (hall 13 (by decide))
      rw [e13]
      have e15 : x 15 = .int .i64 P := h1 15 (by decide) (hall 15 (by decide))
      rw [e15]
      have e16 : x 16 = .int .i64 E := h1 16 (by decide) (hall 16 (by decide))
      rw [e16]
      obtain ⟨o8, -⟩ := h3 (hall 8 (by decide))
      obtain ⟨g13, r13⟩ := h4 (hall 13 (by decide))
      rw [hall 14 (by decide)] at r13
      replace r13 : Row wr ga #[.int .u64 (V : Int), lk] 48 := r13
      clear h1 h3 h4 hall e0 e1 e2 e3 e4 e5 e6 e7 e8 e9 e10 e11 e12 e13 e15 e16
      have RW := Lib.hid (Row.nx RR.out h2)
      have RI := Lib.hid (Row.nx R2.out h2)
      have RP : Hid (Row wr ga #[.int .u64 (V : Int), lk] 48) := Lib.hid r13
      have NW : Hid (Nx w wr) := Lib.hid (Below.trans N0.out (Below.mono h2 (by have := HHS.out; omega)))
      have O8 : Hid (Own (w.heap.size + 1) wr lk LK) := Lib.hid (o8.mono (by have := HHS.out; omega))
      have HGA : Hid (w.heap.size < ga) := Lib.hid (by have := HHS.out; omega)
      clear h2 o8 g13 r13 RR R2 N0 HHS HP HB
      obtain rfl : E = 0 := HE.out
      obtain ⟨A3, c3, rfl, -⟩ := O8.out.rd
      have f1 := RW.out.frozen 1
      have c1 := RW.out.cell (i := 1) (v := .int .i64 at_) rfl
      have R4 := Lib.hid (RW.out.set 1 (.int .i64 P))
      have K4 := RI.out.other r 1 (.int .i64 P) (by omega)
      have P4 := RP.out.other r 1 (.int .i64 P) (by have := HGA.out; omega)
      have G4 := Lib.hid (gr_trans (gr_of (s := some r) NW.out) (gr_set wr r 1 (.int .i64 P)))
      have O4 := Lib.hid (gr_own O8.out (gr_set wr r 1 (.int .i64 P)) (by omega))
      have k0 := K4.cell (i := 0) (v := .int .u64 0) rfl
      have k1 := K4.cell (i := 1) (v := .slice none 0 0) rfl
      have g0 := K4.frozen 0
      have g1 := K4.frozen 1
      have hl : w.heap.size ≤ w.heap.size := Nat.le_refl _
      clear RW RI RP NW O8
      go_wp2_with (refine wpList_load_row rfl 48 (.tmp 4) rfl ga rfl 48 (#[.int .u64 (V : Int), .slice A3 LK.length c3]) (0, 0) _ P4 Tryd.underlying48 rfl cz.out ?_)
      exact bodyPost_ret (results_cell_row2 Tryd.results43 _ _ w.heap.size 48 (#[.int .u64 (V : Int), .slice A3 LK.length c3]) (0, 0) _ rfl ((K4.set 0 _).set 1 _) Tryd.underlying48 rfl cz.out) rfl ⟨_, rfl, (gr_own (gr_own O4.out (gr_set _ w.heap.size 0 _) (Nat.lt_succ_self _)) (gr_set _ w.heap.size 1 _) (Nat.lt_succ_self _)).mono (Nat.le_succ _), (R4.out.other _ 0 _ (by omega)).other _ 1 _ (by omega), gr_newCell (gr_newCell G4.out hl) hl⟩
  · rw [if_pos hE]
    have dE : (E != 0) = true := by simp [hE]
    clear hE
    go_enter Tryd.func43, Tryd.ntmps43
    go_wp2_with fail
    generalize (w.alloc (.cells #[.int .u64 0, .slice none 0 0] 48)) = W0 at *
    refine wp_region_J 17 [[], [0], [1], [2], [], [4], [5], [6], [3, 7], [8], [9], [9], [9], [], [13, 10, 8, 0, 1, 2, 3, 4, 5, 6, 7, 8, 9, 10, 13], [11, 14, 0, 1, 2, 3, 4, 5, 6, 7, 8, 9, 10, 11, 13, 14], [12, 15, 0, 1, 2, 3, 4, 5, 6, 7, 8, 9, 10, 11, 12, 13, 14, 15]] [some 8, some 9, some 10, some 11, some 12, some 13, some 14, some 15, some 16, some 7, some 17, some 18, some 19, some 4, none, some 5, some 6] (JO W0 r (.slice A l.length c) at_ V P E LK)
      (by kernel_rfl) (by kernel_rfl) (hord_of (by decide)) (by kernel_rfl) (by decide) (by decide) ?_ ?_ ?_
    · intro x _
      exact ⟨undef, 0, fun j _ h => (by cases h), (Nx.refl _).drew, fun h => (by cases h), fun h => (by cases h)⟩
    · intro L x tm wr htm hJ hcl i hi hi0 hd hlate K hK
      obtain ⟨lk, ga, h1, h2, h3, h4⟩ := hJ
      simp only [fillA, List.setIfInBounds_toArray, List.set_cons_zero, List.set_cons_succ] at htm
      subst htm
      have hcs : i = 0 ∨ i = 1 ∨ i = 2 ∨ i = 3 ∨ i = 4 ∨ i = 5 ∨ i = 6 ∨ i = 7 ∨ i = 8 ∨ i = 9 ∨ i = 10 ∨ i = 11 ∨ i = 12 ∨ i = 13 ∨ i = 14 ∨ i = 15 ∨ i = 16 := by omega
      clear hi
      rcases hcs with rfl | rfl | rfl | rfl | rfl | rfl | rfl | rfl | rfl | rfl | rfl | rfl | rfl | rfl | rfl | rfl | rfl
      · exact wpOp_of rfl rfl (wp_val_of (some 8) rfl (.pointer (some ⟨r, 0, none⟩)) (by kernel_rfl) (hK _ _ (jo_pure 0 (by decide) (by decide) (by decide) h1 h2 h3 h4)))
      · have e0 : x 0 = .pointer (some ⟨r, 0, none⟩) := h1 0 (by decide) (hd 0 (by decide))
        generalize x 0 = y0 at e0 hK ⊢
        subst e0
        exact wpOp_of rfl rfl (wp_val_of (some 9) rfl (.pointer (some ⟨r, 0, none⟩)) (by kernel_rfl) (hK _ _ (jo_pure 1 (by decide) (by decide) (by decide) h1 h2 h3 h4)))
      · have e1 : x 1 = .pointer (some ⟨r, 0, none⟩) := h1 1 (by decide) (hd 1 (by decide))
        generalize x 1 = y1 at e1 hK ⊢
        subst e1
        exact wpOp_of rfl rfl (wp_val_of (some 10) rfl (.pointer (some ⟨r, 0, none⟩)) (by kernel_rfl) (hK _ _ (jo_pure 2 (by decide) (by decide) (by decide) h1 h2 h3 h4)))
      · have e2 : x 2 = .pointer (some ⟨r, 0, none⟩) := h1 2 (by decide) (hd 2 (by decide))
        generalize x 2 = y2 at e2 hK ⊢
        subst e2
        exact wpOp_of rfl rfl (wp_load_cell (some 11) rfl 43 (.tmp 10) rfl r 0 rfl (.slice A l.length c) _ ((Row.nx RR.out h2).cell (i := 0) rfl) Tryd.underlying43 rfl (hK _ _ (jo_pure 3 (by decide) (by decide) (by decide) h1 h2 h3 h4)))
      · exact wpOp_of rfl rfl (wp_val_of (some 12) rfl (.pointer (some ⟨r, 0, none⟩)) (by kernel_rfl) (hK _ _ (jo_pure 4 (by decide) (by decide) (by decide) h1 h2 h3 h4)))
      · have e4 : x 4 = .pointer (some ⟨r, 0, none⟩) := h1 4 (by decide) (hd 4 (by decide))
        generalize x 4 = y4 at e4 hK ⊢
        subst e4
        exact wpOp_of rfl rfl (wp_val_of (some 13) rfl (.pointer (some ⟨r, 0, none⟩)) (by kernel_rfl) (hK _ _ (jo_pure 5 (by decide) (by decide) (by decide) h1 h2 h3 h4)))
      · have e5 : x 5 = .pointer (some ⟨r, 0, none⟩) := h1 5 (by decide) (hd 5 (by decide))
        generalize x 5 = y5 at e5 hK ⊢
        subst e5
        exact wpOp_of rfl rfl (wp_val_of (some 14) rfl (.pointer (some ⟨r, 1, none⟩)) (by kernel_rfl) (hK _ _ (jo_pure 6 (by decide) (by decide) (by decide) h1 h2 h3 h4)))
      · have e6 : x 6 = .pointer (some ⟨r, 1, none⟩) := h1 6 (by decide) (hd 6 (by decide))
        generalize x 6 = y6 at e6 hK ⊢
        subst e6
        exact wpOp_of rfl rfl (wp_load_cell (some 15) rfl 3 (.tmp 14) rfl r 1 rfl (.int .i64 at_) _ ((Row.nx RR.out h2).cell (i := 1) rfl) Tryd.underlying3 rfl (hK _ _ (jo_pure 7 (by decide) (by decide) (by decide) h1 h2 h3 h4)))
      · have e3 : x 3 = .slice A l.length c := h1 3 (by decide) (hd 3 (by decide))
        have e7 : x 7 = .int .i64 at_ := h1 7 (by decide) (hd 7 (by decide))
        generalize x 3 = y3 at e3 hK ⊢
        subst e3
        generalize x 7 = y7 at e7 hK ⊢
        subst e7
        have l9 : L 9 = false := hlate 9 (by decide)
        have l14 : L 14 = false := hlate 14 (by decide)
        have l10 : L 10 = false := by
          rcases hq : L 10 with _ | _
          · rfl
          · have := hcl 10 hq 9 (by decide); rw [l9] at this; cases this
        refine wpOp_of rfl rfl (wp_callp_of (some 16) rfl 60 #[.slice A l.length c, .int .i64 at_] (by kernel_rfl) (fun v w' => ∃ lk, v = .tuple #[.agg #[.int .u64 (V : Int), lk], .int .i64 P, .int .i64 E] ∧ Own wr.heap.size w' lk LK) ((HP.out wr (HB.out.nx h2)).mono fun e w' ⟨lk', q1, q2, q3⟩ => ⟨_, q1, ⟨lk', rfl, q2⟩, q3⟩) ?_)
        rintro v w' ⟨lk', rfl, q2⟩ q3
        exact hK _ _ (jo_call l9 l10 l14 h1 h2 h4 q2 q3 hi0)
      · have e8 : x 8 = .tuple #[.agg #[.int .u64 (V : Int), lk], .int .i64 P, .int .i64 E] := h1 8 (by decide) (hd 8 (by decide))
        generalize x 8 = y8 at e8 hK ⊢
        subst e8
        exact wpOp_of rfl rfl (wp_val_of (some 7) rfl (.tuple #[.agg #[.int .u64 (V : Int), lk], .int .i64 P, .int .i64 E]) (by kernel_rfl) (hK _ _ (jo_pure 9 (by decide) (by decide) (by decide) h1 h2 h3 h4)))
      · have e9 : x 9 = .tuple #[.agg #[.int .u64 (V : Int), lk], .int .i64 P, .int .i64 E] := h1 9 (by decide) (hd 9 (by decide))
        generalize x 9 = y9 at e9 hK ⊢
        subst e9
        exact wpOp_of rfl rfl (wp_val_of (some 17) rfl (.agg #[.int .u64 (V : Int), lk]) (by kernel_rfl) (hK _ _ (jo_pure 10 (by decide) (by decide) (by decide) h1 h2 h3 h4)))
      · have e9 : x 9 = .tuple #[.agg #[.int .u64 (V : Int), lk], .int .i64 P, .int .i64 E] := h1 9 (by decide) (hd 9 (by decide))
        generalize x 9 = y9 at e9 hK ⊢
        subst e9
        exact wpOp_of rfl rfl (wp_val_of (some 18) rfl (.int .i64 P) (by kernel_rfl) (hK _ _ (jo_pure 11 (by decide) (by decide) (by decide) h1 h2 h3 h4)))
      · have e9 : x 9 = .tuple #[.agg #[.int .u64 (V : Int), lk], .int .i64 P, .int .i64 E] := h1 9 (by decide) (hd 9 (by decide))
        generalize x 9 = y9 at e9 hK ⊢
        subst e9
        exact wpOp_of rfl rfl (wp_val_of (some 19) rfl (.int .i64 E) (by kernel_rfl) (hK _ _ (jo_pure 12 (by decide) (by decide) (by decide) h1 h2 h3 h4)))
      · have l14 : L 14 = false := hlate 14 (by decide)
        exact wpOp_of rfl rfl (wp_alloc_of (some 4) rfl 48 rfl (#[.int .u64 0, .slice none 0 0]) hz2 (hK _ _ (jo_alloc l14 h1 h2 h3)))
      · have e13 : x 13 = .pointer (some ⟨ga, 0, none⟩) := h1 13 (by decide) (hd 13 (by decide))
        have e10 : x 10 = .agg #[.int .u64 (V : Int), lk] := h1 10 (by decide) (hd 10 (by decide))
        generalize x 13 = y13 at e13 hK ⊢
        subst e13
        generalize x 10 = y10 at e10 hK ⊢
        subst e10
        have h4b := h4 (hd 13 (by decide))
        have h3b := h3 (hd 8 (by decide))
        rw [hi0] at h4b
        exact wpOp_of rfl rfl (wp_store_row 48 (.tmp 4) (.tmp 17) rfl ga (#[.int .u64 (V : Int), lk]) rfl rfl 48 (#[.int .u64 0, .slice none 0 0]) h4b.2 outsz rfl (oc_one h3b.1) (hK _ _ (jo_store (hd 8 (by decide)) (hd 13 (by decide)) hi0 h1 h2 h3b h4b)))
      · have e11 : x 11 = .int .i64 P := h1 11 (by decide) (hd 11 (by decide))
        generalize x 11 = y11 at e11 hK ⊢
        subst e11
        exact wpOp_of rfl rfl (wp_val_of (some 5) rfl (.int .i64 P) (by kernel_rfl) (hK _ _ (jo_pure 15 (by decide) (by decide) (by decide) h1 h2 h3 h4)))
      · have e12 : x 12 = .int .i64 E := h1 12 (by decide) (hd 12 (by decide))
        generalize x 12 = y12 at e12 hK ⊢
        subst e12
        exact wpOp_of rfl rfl (wp_val_of (some 6) rfl (.int .i64 E) (by kernel_rfl) (hK _ _ (jo_pure 16 (by decide) (by decide) (by decide) h1 h2 h3 h4)))
    · intro L x tm wr htm hJ hall
      obtain ⟨lk, ga, h1, h2, h3, h4⟩ := hJ
      simp only [fillA, List.setIfInBounds_toArray, List.set_cons_zero, List.set_cons_succ] at htm
      subst htm
      have e0 : x 0 = .pointer (some ⟨r, 0, none⟩) := h1 0 (by decide) (hall 0 (by decide))
      rw [e0]
      have e1 : x 1 = .pointer (some ⟨r, 0, none⟩) := h1 1 (by decide) (hall 1 (by decide))
      rw [e1]
      have e2 : x 2 = .pointer (some ⟨r, 0, none⟩) := h1 2 (by decide) (hall 2 (by decide))
      rw [e2]
      have e3 : x 3 = .slice A l.length c := h1 3 (by decide) (hall 3 (by decide))
      rw [e3]
      have e4 : x 4 = .pointer (some ⟨r, 0, none⟩) := h1 4 (by decide) (hall 4 (by decide))
      rw [e4]
      have e5 : x 5 = .pointer (some ⟨r, 0, none⟩) := h1 5 (by decide) (hall 5 (by decide))
      rw [e5]
      have e6 : x 6 = .pointer (some ⟨r, 1, none⟩) := h1 6 (by decide) (hall 6 (by decide))
      rw [e6]
      have e7 : x 7 = .int .i64 at_ := h1 7 (by decide) (hall 7 (by decide))
      rw [e7]
      have e8 : x 8 = .tuple #[.agg #[.int .u64 (V : Int), lk], .int .i64 P, .int .i64 E] := h1 8 (by decide) (hall 8 (by decide))
      rw [e8]
      have e9 : x 9 = .tuple #[.agg #[.int .u64 (V : Int), lk], .int .i64 P, .int .i64 E] := h1 9 (by decide) (hall 9 (by decide))
      rw [e9]
      have e10 : x 10 = .agg #[.int .u64 (V : Int), lk] := h1 10 (by decide) (hall 10 (by decide))
      rw [e10]
      have e11 : x 11 = .int .i64 P := h1 11 (by decide) (hall 11 (by decide))
      rw [e11]
      have e12 : x 12 = .int .i64 E := h1 12 (by decide) (hall 12 (by decide))
      rw [e12]
      have e13 : x 13 = .pointer (some ⟨ga, 0, none⟩) := h1 13 (by decide) (hall 13 (by decide))
      rw [e13]
      have e15 : x 15 = .int .i64 P := h1 15 (by decide) (hall 15 (by decide))
      rw [e15]
      have e16 : x 16 = .int .i64 E := h1 16 (by decide) (hall 16 (by decide))
      rw [e16]
      obtain ⟨o8, -⟩ := h3 (hall 8 (by decide))
      obtain ⟨g13, r13⟩ := h4 (hall 13 (by decide))
      rw [hall 14 (by decide)] at r13
      replace r13 : Row wr ga #[.int .u64 (V : Int), lk] 48 := r13
      clear h1 h3 h4 hall e0 e1 e2 e3 e4 e5 e6 e7 e8 e9 e10 e11 e12 e13 e15 e16
      have RW := Lib.hid (Row.nx RR.out h2)
      have RI := Lib.hid (Row.nx R2.out h2)
      have RP : Hid (Row wr ga #[.int .u64 (V : Int), lk] 48) := Lib.hid r13
      have NW : Hid (Nx w wr) := Lib.hid (Below.trans N0.out (Below.mono h2 (by have := HHS.out; omega)))
      have O8 : Hid (Own (w.heap.size + 1) wr lk LK) := Lib.hid (o8.mono (by have := HHS.out; omega))
      have HGA : Hid (w.heap.size < ga) := Lib.hid (by have := HHS.out; omega)
      clear h2 o8 g13 r13 RR R2 N0 HHS HP HB
      have R3 := RW.out
      have K3 := RI.out
      have k0 := K3.cell (i := 0) (v := .int .u64 0) rfl
      have k1 := K3.cell (i := 1) (v := .slice none 0 0) rfl
      have g0 := K3.frozen 0
      have g1 := K3.frozen 1
      clear RW RI RP
      go_wp2_with fail
      exact bodyPost_ret (results_cell_row2 Tryd.results43 _ _ w.heap.size 48 (#[.int .u64 0, .slice none 0 0]) (0, 0) _ rfl ((K3.set 0 _).set 1 _) Tryd.underlying48 rfl cz.out) rfl ⟨_, rfl, Own.nil _ _, (R3.other _ 0 _ (by omega)).other _ 1 _ (by omega), gr_of ((NW.out.setAt (i := 0) _ (Nat.le_refl _)).setAt (i := 1) _ (Nat.le_refl _))⟩
end Go.Proofs.YtpijehaciomkhaaDoor
end

section
namespace Go.Proofs.YtpijehaciomkhaaDoor
open Go Go.RowKit
set_option linter.unusedVariables false
set_option linter.unusedSimpArgs false

def ins16 : List Value := (List.replicate 16 (icl inZ (.slice none 0 0))).flatten
theorem ins16_length : ins16.length = 560 := by decide +kernel
theorem make16 (w : World) : (Instr.makeSlice 36 (.int .i64 16) (.int .i64 16)).run Tryd.prog w = .ok (.slice (some ⟨w.heap.size, 0, none⟩) 16 16) (w.alloc (.cells ins16.toArray 45)) := by kernel_rfl
end Go.Proofs.YtpijehaciomkhaaDoor
end

section
namespace Go.Proofs.YtpijehaciomkhaaDoor
open Go Go.RowKit
set_option linter.unusedVariables false
set_option linter.unusedSimpArgs false

section
variable {P : Program}
/-- A store of several cells into the midst of a row. -/
theorem wp_store_part {o : Oper} {a : Act} {w : World} {K : Act → World → Prop} {Q : Exit → Act → World → Prop} (ty : TypeId) (x y : Operand) (ho : o.op = .store ty x y)
    (g k : Nat) (cells : Array Value) (hx : a.eval x = .pointer (some ⟨g, k, none⟩)) (hy : a.eval y = .agg cells)
    (t : TypeId) (old : Array Value) (hg : Row w g old t) (hi : (P.info? ty).map (·.size) = some cells.size)
    (hold : k + cells.size ≤ old.size) (h1 : cells.all (·.oneCell') = true)
    (h : K (a.put o.dst undef) (w.setRow g (old.toList.take k ++ cells.toList ++ old.toList.drop (k + cells.size)).toArray)) : o.wp P a w K Q := by
  have := run_storeCells_at (P := P) g k t cells.toList 0 old w hg (by simp; omega) (fun v hv => (Array.all_eq_true_iff_forall_mem.1 h1) v (by simpa using hv))
  cases hq : P.info? ty with
  | none => simp [hq] at hi
  | some i =>
    have hs : cells.size = i.size := by simp [hq] at hi; omega
    have hr : (storeVar ty ⟨g, k, none⟩ (.agg cells)).run P w = .ok () (w.setRow g (old.toList.take k ++ cells.toList ++ old.toList.drop (k + cells.size)).toArray) := by
      simp only [Nat.add_zero, Array.length_toList] at this
      simp [storeVar, sizeOf, typeInfo, hq, Value.cells, hs, this]
    unfold Oper.wp execOp
    simp only [ho, hx, hy, Instr.storeAt, Instr.sureAddr, Sem.run_bind, Sem.run_pure, Result.andThen_ok, hr]
    exact h
theorem wpList_store_part {ops : Array Oper} {rest : List Oper} {o : Oper} {a : Act} {w : World} {Q : Exit → Act → World → Prop} (hgd : o.guard = none) (ty : TypeId) (x y : Operand) (ho : o.op = .store ty x y)
    (g k : Nat) (cells : Array Value) (hx : a.eval x = .pointer (some ⟨g, k, none⟩)) (hy : a.eval y = .agg cells)
    (t : TypeId) (old : Array Value) (hg : Row w g old t) (hi : (P.info? ty).map (·.size) = some cells.size)
    (hold : k + cells.size ≤ old.size) (h1 : cells.all (·.oneCell') = true)
    (h : wpList P ops Q rest (a.put o.dst undef) (w.setRow g (old.toList.take k ++ cells.toList ++ old.toList.drop (k + cells.size)).toArray)) : wpList P ops Q (o :: rest) a w :=
  wpList_plain hgd fun _ hK => wp_store_part ty x y ho g k cells hx hy t old hg hi hold h1 (hK _ _ h)
end
/-- So many, one behind the other. -/
def lsT {α : Type} (f : Int → α × Int × Int) : Nat → Int → List α × Int × Int
  | 0, p => ([], p, 0)
  | k + 1, p => if (f p).2.2 ≠ 0 then ([], 0, (f p).2.2) else if (lsT f k (f p).2.1).2.2 ≠ 0 then ([], 0, (lsT f k (f p).2.1).2.2) else ((f p).1 :: (lsT f k (f p).2.1).1, (lsT f k (f p).2.1).2.1, 0)
def lsO {α : Type} (f : Int → α × Int × Int) (c : Nat × Int × Int) : List α × Int × Int := if c.2.2 ≠ 0 then ([], 0, c.2.2) else lsT f c.1 c.2.1
/-- what is read so far, and what is left, makes the whole -/
def LsJ {α : Type} (f : Int → α × Int × Int) (T : List α × Int × Int) (es : List α) (k : Nat) (p : Int) : Prop := ((lsT f k p).2.2 ≠ 0 ∧ T = ([], 0, (lsT f k p).2.2)) ∨ ((lsT f k p).2.2 = 0 ∧ T = (es ++ (lsT f k p).1, (lsT f k p).2.1, 0))
theorem lsT_e {α : Type} (f : Int → α × Int × Int) (k : Nat) (p : Int) : (lsT f k p).2.2 ≠ 0 → lsT f k p = ([], 0, (lsT f k p).2.2) := by
  cases k with
  | zero => intro h; exact absurd rfl h
  | succ k =>
    intro h
    by_cases h1 : (f p).2.2 ≠ 0
    · simp only [lsT, if_pos h1]
    · by_cases h2 : (lsT f k (f p).2.1).2.2 ≠ 0
      · simp only [lsT, if_neg h1, if_pos h2]
      · simp only [lsT, if_neg h1, if_neg h2] at h; exact absurd rfl h
theorem lsJ_begin {α : Type} (f : Int → α × Int × Int) (k : Nat) (p : Int) : LsJ f (lsT f k p) [] k p := by
  by_cases h : (lsT f k p).2.2 = 0
  · refine .inr ⟨h, ?_⟩
    rw [List.nil_append]
    ext1
    · rfl
    · exact Prod.ext rfl h
  · exact .inl ⟨h, lsT_e f k p h⟩
theorem lsJ_end {α : Type} {f : Int → α × Int × Int} {T : List α × Int × Int} {es : List α} {p : Int} (h : LsJ f T es 0 p) : T = (es, p, 0) := by
  rcases h with ⟨h, -⟩ | ⟨-, h⟩
  · exact absurd rfl h
  · simpa [lsT] using h
theorem lsJ_bad {α : Type} {f : Int → α × Int × Int} {T : List α × Int × Int} {es : List α} {k : Nat} {p : Int} (h : LsJ f T es (k + 1) p) (h1 : (f p).2.2 ≠ 0) : T = ([], 0, (f p).2.2) := by
  have e : lsT f (k + 1) p = ([], 0, (f p).2.2) := by simp only [lsT, if_pos h1]
  rcases h with ⟨-, h⟩ | ⟨h, -⟩
  · rw [h, e]
  · rw [e] at h; exact absurd h h1
theorem lsJ_step {α : Type} {f : Int → α × Int × Int} {T : List α × Int × Int} {es : List α} {k : Nat} {p : Int} (h : LsJ f T es (k + 1) p) (h1 : (f p).2.2 = 0) : LsJ f T (es ++ [(f p).1]) k (f p).2.1 := by
  by_cases h2 : (lsT f k (f p).2.1).2.2 = 0
  · have e : lsT f (k + 1) p = ((f p).1 :: (lsT f k (f p).2.1).1, (lsT f k (f p).2.1).2.1, 0) := by simp [lsT, h1, h2]
    rcases h with ⟨h, -⟩ | ⟨-, h⟩
    · rw [e] at h; exact absurd rfl h
    · refine .inr ⟨h2, ?_⟩
      rw [h, e, List.append_assoc]
      rfl
  · have e : lsT f (k + 1) p = ([], 0, (lsT f k (f p).2.1).2.2) := by simp [lsT, h1, h2]
    rcases h with ⟨-, h⟩ | ⟨h, -⟩
    · exact .inl ⟨h2, by rw [h, e]⟩
    · rw [e] at h; exact absurd h h2

/-- Inputs in a row of the call's own, whose unlocks lie behind B. -/
def InsB (B : Nat) (w : World) (fs : List Value) (es : List Inp) : Prop := fs.length = es.length * 35 ∧ ∀ j (h : j < es.length), ∃ uv, inEl.cut fs j = icl es[j] uv ∧ InOk es[j] ∧ Own B w uv es[j].u
theorem InsB.nil (B : Nat) (w : World) : InsB B w [] [] := ⟨rfl, fun j h => by simp at h⟩
theorem InsB.nx {B : Nat} {w w' : World} {fs : List Value} {es : List Inp} (h : InsB B w fs es) (k : Nx w w') : InsB B w' fs es := ⟨h.1, fun j hj => by obtain ⟨u, a, b, c⟩ := h.2 j hj; exact ⟨u, a, b, c.nx k⟩⟩
theorem InsB.gr {B r : Nat} {w w' : World} {fs : List Value} {es : List Inp} (h : InsB B w fs es) (k : w.grownBy w' (some r)) (hr : r < B) : InsB B w' fs es := ⟨h.1, fun j hj => by obtain ⟨u, a, b, c⟩ := h.2 j hj; exact ⟨u, a, b, gr_own c k hr⟩⟩
theorem InsB.setRow {B g : Nat} {w : World} {fs : List Value} {es : List Inp} {cs : Array Value} (h : InsB B w fs es) (hg : g < B) : InsB B (w.setRow g cs) fs es := ⟨h.1, fun j hj => by obtain ⟨u, a, b, c⟩ := h.2 j hj; exact ⟨u, a, b, own_setRow c hg⟩⟩
theorem InsB.snoc {B : Nat} {w : World} {fs : List Value} {es : List Inp} {x : Inp} {uv : Value} (h : InsB B w fs es) (hx : InOk x) (ho : Own B w uv x.u) : InsB B w (fs ++ icl x uv) (es ++ [x]) := by
  refine ⟨by rw [List.length_append, List.length_append, h.1, icl_length x uv hx, Nat.add_mul]; simp, fun j hj => ?_⟩
  by_cases hlt : j < es.length
  · obtain ⟨u, a, b, c⟩ := h.2 j hlt
    refine ⟨u, ?_, ?_, ?_⟩
    · rw [El.cut_left (L := inEl) h.1 hlt, List.getElem_append_left hlt]; exact a
    · rw [List.getElem_append_left hlt]; exact b
    · rw [List.getElem_append_left hlt]; exact c
  · have hj2 : j = es.length := by simp at hj; omega
    subst hj2
    have e : (es ++ [x])[es.length]'hj = x := by simp
    rw [e]
    refine ⟨uv, ?_, hx, ho⟩
    have := El.cut_right (L := inEl) (fs := fs) (us := icl x uv) (n := es.length) (j := 0) h.1
    rw [Nat.add_zero] at this
    rw [this]
    unfold El.cut
    rw [Nat.zero_mul, List.drop_zero, List.take_of_length_le (by rw [icl_length x uv hx]; exact Nat.le_refl _)]
theorem InsB.all {B : Nat} {w : World} {fs : List Value} {es : List Inp} (h : InsB B w fs es) : AllE inEl none w fs es := ⟨h.1, fun j hj => by
  obtain ⟨u, a, b, c⟩ := h.2 j hj
  exact ⟨u, a, b, c.rd, fun _ q hq => by cases hq⟩⟩
/-- A slice over a row's first elements. -/
theorem rdE_row {α : Type} {L : El α} {w : World} {g c : Nat} {full : List Value} {t : TypeId} {es : List α} (R : Row w g full.toArray t) (hall : AllE L none w (full.take (es.length * L.k)) es) (hf : es.length * L.k ≤ full.length) (hc : es.length ≤ c) (hm : c ≤ maxLen) : RdE L w (.slice (some ⟨g, 0, none⟩) es.length c) es := by
  refine ⟨full.take (es.length * L.k), ⟨by rw [List.length_take]; omega, hall.one, _, _, rfl, hc, hm, fun _ => ⟨g, 0, rfl, R.lt, fun j hj => ?_⟩⟩, hall⟩
  rw [Nat.zero_add]
  have hj2 : j < es.length * L.k := by rw [List.length_take] at hj; omega
  exact R.cell (by rw [List.getElem?_toArray, List.getElem_take]; exact List.getElem?_eq_getElem _)
theorem InsB.mono {B B' : Nat} {w : World} {fs : List Value} {es : List Inp} (h : InsB B w fs es) (hB : B' ≤ B) : InsB B' w fs es := ⟨h.1, fun j hj => by obtain ⟨u, a, b, c⟩ := h.2 j hj; exact ⟨u, a, b, c.mono hB⟩⟩
/-- A list that is read, all of it behind B. -/
def InsAt (B : Nat) (w : World) (v : Value) (es : List Inp) : Prop := ∃ fs, RdF 35 w v es.length fs ∧ InsB B w fs es ∧ (0 < es.length → ∀ q, v.ownBlock = some q → B ≤ q)
theorem InsAt.nil (B : Nat) (w : World) : InsAt B w (.slice none 0 0) [] := ⟨[], RdF.nil _ w, InsB.nil _ _, fun h => by simp at h⟩
theorem InsAt.rd {B : Nat} {w : World} {v : Value} {es : List Inp} (h : InsAt B w v es) : RdE inEl w v es := by
  obtain ⟨fs, h1, h2, h3⟩ := h
  exact ⟨fs, h1, h2.all⟩
theorem InsAt.nx {B : Nat} {w w' : World} {v : Value} {es : List Inp} (h : InsAt B w v es) (k : Nx w w') : InsAt B w' v es := by
  obtain ⟨fs, h1, h2, h3⟩ := h
  exact ⟨fs, h1.nx k, h2.nx k, h3⟩
theorem InsAt.mono {B B' : Nat} {w : World} {v : Value} {es : List Inp} (h : InsAt B w v es) (hB : B' ≤ B) : InsAt B' w v es := by
  obtain ⟨fs, h1, h2, h3⟩ := h
  exact ⟨fs, h1, h2.mono hB, fun hp q hq => Nat.le_trans hB (h3 hp q hq)⟩
theorem InsAt.sl {B : Nat} {w : World} {v : Value} {es : List Inp} (h : InsAt B w v es) : ∃ A c, v = .slice A es.length c := by
  obtain ⟨fs, ⟨a0, a1, A, c, rfl, _⟩, h2, h3⟩ := h
  exact ⟨A, c, rfl⟩
theorem InsAt.gr {B r : Nat} {w w' : World} {v : Value} {es : List Inp} (h : InsAt B w v es) (k : w.grownBy w' (some r)) (hr : r < B) : InsAt B w' v es := by
  obtain ⟨fs, ⟨a0, a1, A, c, rfl, a2, a3, a4⟩, h2, h3⟩ := h
  refine ⟨fs, ⟨a0, a1, A, c, rfl, a2, a3, fun hp => ?_⟩, h2.gr k hr, h3⟩
  obtain ⟨b, o, rfl, hb, hc⟩ := a4 hp
  have hne : b ≠ r := by
    have := h3 hp b (by simp [Value.ownBlock])
    omega
  have hblk := k.block b hb (fun e => hne (Option.some.inj e))
  refine ⟨b, o, rfl, Nat.lt_of_lt_of_le hb k.size, fun j hj => ?_⟩
  rw [← hc j hj]
  unfold World.cell?
  simp only [hblk]
theorem InsAt.of_row {B : Nat} {w : World} {g c : Nat} {full : List Value} {t : TypeId} {es : List Inp} (R : Row w g full.toArray t) (hall : InsB B w (full.take (es.length * 35)) es) (hf : es.length * 35 ≤ full.length) (hc : es.length ≤ c) (hm : c ≤ maxLen) (hg : B ≤ g) : InsAt B w (.slice (some ⟨g, 0, none⟩) es.length c) es := by
  refine ⟨full.take (es.length * 35), ⟨by rw [List.length_take]; omega, hall.all.one, _, _, rfl, hc, hm, fun _ => ⟨g, 0, rfl, R.lt, fun j hj => ?_⟩⟩, hall, fun _ q hq => by
    have : g = q := by simpa [Value.ownBlock] using hq
    omega⟩
  rw [Nat.zero_add]
  have hj2 : j < es.length * 35 := by rw [List.length_take] at hj; omega
  exact R.cell (by rw [List.getElem?_toArray, List.getElem_take]; exact List.getElem?_eq_getElem _)
theorem inT_ok (l : List UInt8) (at_ : Int) : InOk (inT l at_).1 := by
  unfold inT
  split
  · exact inZ_ok
  · split
    · exact inZ_ok
    · exact ⟨gpX_length l at_, gpN_lt l at_, gpH_lt l at_⟩
theorem cnT_most (l : List UInt8) (at_ : Int) (most : Nat) : (cnT l at_ most).1 ≤ most := by
  unfold cnT
  split
  · exact Nat.zero_le _
  · split
    · exact Nat.zero_le _
    · simp only; omega
set_option maxRecDepth 100000 in
set_option maxHeartbeats 8000000 in
theorem tlistIn_any (r : Nat) (bv : Value) (l : List UInt8) (at_ : Int) (w : World) (R : Row w r (rdcs bv at_) 100) (h : RdS (some r) w bv l) (hl : l.length ≤ 140737488355328) :
    Calls Tryd.prog 40 #[.pointer (some ⟨r, 0, none⟩), .int .i64 16, .func (.func 41) #[] #[]] w fun e w' => ∃ v, e = .returned (.tuple #[v, .int .i64 (lsO (inT l) (cnT l at_ 16)).2.2]) ∧ InsAt w.heap.size w' v (lsO (inT l) (cnT l at_ 16)).1 ∧ ((lsO (inT l) (cnT l at_ 16)).2.2 = 0 → Row w' r (rdcs bv (lsO (inT l) (cnT l at_ 16)).2.1) 100) ∧ w.grownBy w' (some r) := by
  have HC := tcount_any r bv l at_ 16 w R h hl (by decide)
  have hrl : r < w.heap.size := R.lt
  have HM := cnT_most l at_ 16
  unfold lsO
  generalize cnT l at_ 16 = C at *
  obtain ⟨n, p, E⟩ := C
  dsimp only at *
  replace HC := Lib.hid HC
  by_cases hE : E = 0
  · subst hE
    rw [if_neg (by simp)]
    have HT := Lib.hid (lsJ_begin (inT l) n p)
    generalize lsT (inT l) n p = T at *
    obtain ⟨TL, TP, TE⟩ := T
    dsimp only at *
    have HRS := Lib.hid h
    have HIN := Lib.hid (fun at_ w R (h : RdS (some r) w bv l) => tin_any r bv l at_ w R h hl)
    have MK := make16
    have h16 := Lib.hid ins16_length
    clear R h
    generalize ins16 = Z at *
    go_enter Tryd.func40, Tryd.ntmps40
    go_wp2_with fail
    refine HC.out.mono ?_
    rintro e w1 ⟨rfl, R1, G1⟩
    have HG1 := Lib.hid G1
    have hg1 : r < w1.heap.size := R1.lt
    have R1b := Lib.hid (R1.alloc (.cells Z.toArray 45))
    have G1b := Lib.hid (gr_trans G1 (gr_of ((Nx.refl w1).alloc (.cells Z.toArray 45))))
    have RZ := Lib.hid (Row.new w1 Z.toArray 45 _ rfl)
    have hws : w.heap.size ≤ w1.heap.size := G1.size
    clear R1 G1 HC HG1
    go_wp2_with fail
    generalize hW : w1.alloc (.cells Z.toArray 45) = W at *
    clear hW
    generalize w1.heap.size = g at *
    replace HT : Hid (LsJ (inT l) (TL, TP, TE) [] (n - 0) p) := HT
    go_loopw [24] (fun iv wr => ∃ (j : Nat) (es : List Inp) (fs : List Value) (q : Int), iv = .int .i64 (j : Int) ∧ j ≤ n ∧ Hid (es.length = j) ∧ Hid (LsJ (inT l) (TL, TP, TE) es (n - j) q) ∧ Hid (fs.length = 560) ∧ Hid (Row wr g fs.toArray 45) ∧ Hid (InsB (g + 1) wr (fs.take (j * 35)) es) ∧ Hid (Row wr r (rdcs bv q) 100) ∧ Hid (w.grownBy wr (some r))) (fun iv _ => n - (intOf iv).toNat)
    case atStart => exact ⟨0, [], Z, p, rfl, Nat.zero_le _, Lib.hid rfl, HT, h16, RZ, Lib.hid (by rw [Nat.zero_mul, List.take_zero]; exact InsB.nil _ _), R1b, G1b⟩
    case round =>
      clear HT RZ R1b G1b h16
      obtain ⟨j, es, fs, q, rfl, hj, HES, HJ, HFL, HRG, HIB, HRR, HG⟩ := hrel
      by_cases hlt : j < n
      · have HLT := Lib.hid hlt
        have hlt1 : (j : Int) < (n : Int) := by omega
        have hj16 : (j : Int) < 16 := by omega
        have hjn : j < 16 := by omega
        have HCL := Lib.hid (HIN.out q wr HRR.out (HRS.out.grown HG.out))
        have HOK := Lib.hid (inT_ok l q)
        have HJ1 : Hid (LsJ (inT l) (TL, TP, TE) es ((n - (j + 1)) + 1) q) := Lib.hid (by rw [show n - (j + 1) + 1 = n - j by omega]; exact HJ.out)
        have HSTEP := Lib.hid (fun h => lsJ_step HJ1.out h)
        have HBAD := Lib.hid (fun h => lsJ_bad HJ1.out h)
        clear hlt hj HJ HJ1 HRR
        generalize inT l q = X at *
        obtain ⟨x, q', E'⟩ := X
        dsimp only at *
        go_wp2_with fail
        refine HCL.out.mono ?_
        rintro e w2 ⟨uv, rfl, ho, R2, G2⟩
        obtain ⟨A3, c3, rfl, -⟩ := ho.rd
        have hgl : g < wr.heap.size := HRG.out.lt
        have RG2 := grw_row HRG.out G2 (by omega)
        have IB2 := Lib.hid ((HIB.out.gr G2 (by omega)).snoc HOK.out (ho.mono hgl))
        have OU := Lib.hid (ho.mono hgl)
        have HR2 := Lib.hid R2
        have HG2 := Lib.hid (gr_trans HG.out G2)
        have iz := Lib.hid (insz x (.slice A3 x.u.length c3) HOK.out)
        have i1 := icel_one x (.slice A3 x.u.length c3) rfl
        have hold : j * 35 + (icel x (.slice A3 x.u.length c3)).size ≤ fs.toArray.size := by
          rw [icel_size x _ HOK.out]
          have := HFL.out
          simp only [List.size_toArray]
          omega
        have hgw : w.heap.size ≤ g := hws
        clear ho R2 G2 HCL HRG HIB HG
        have HEQ : Hid ((fs.take (j * 35) ++ ((icel x (.slice A3 x.u.length c3)).toList ++ fs.drop (j * 35 + (icel x (.slice A3 x.u.length c3)).size))).toArray = (fs.take (j * 35) ++ icl x (.slice A3 x.u.length c3) ++ fs.drop (j * 35 + 35)).toArray) := Lib.hid (by rw [icel_size x _ HOK.out, List.append_assoc]; rfl)
        have HTK : Hid ((fs.take (j * 35) ++ icl x (.slice A3 x.u.length c3) ++ fs.drop (j * 35 + 35)).take ((j + 1) * 35) = fs.take (j * 35) ++ icl x (.slice A3 x.u.length c3)) := Lib.hid (by
          have e : (fs.take (j * 35) ++ icl x (.slice A3 x.u.length c3)).length = (j + 1) * 35 := by
            rw [List.length_append, icl_length x _ HOK.out, List.length_take]
            have := HFL.out
            omega
          rw [← e]
          exact List.take_left)
        have HFL2 : Hid ((fs.take (j * 35) ++ icl x (.slice A3 x.u.length c3) ++ fs.drop (j * 35 + 35)).length = 560) := Lib.hid (by
          rw [List.length_append, List.length_append, icl_length x _ HOK.out, List.length_take, List.length_drop]
          have := HFL.out
          omega)
        by_cases hE' : E' = 0
        · subst hE'
          have HST := Lib.hid (HSTEP.out rfl)
          clear HSTEP HBAD
          go_wp2_with (refine wpList_store_part rfl 45 (.tmp 35) (.tmp 33) rfl g (j * 35) (icel x (.slice A3 x.u.length c3)) (by rfl) rfl 45 fs.toArray RG2 iz.out hold i1 ?_)
          go_roundw
          case rel => exact ⟨j + 1, es ++ [x], fs.take (j * 35) ++ icl x (.slice A3 x.u.length c3) ++ fs.drop (j * 35 + 35), q', by go_num, HLT.out, Lib.hid (by rw [List.length_append, HES.out]; rfl), HST, HFL2, Lib.hid (by rw [HEQ.out]; exact RG2.setRow _), Lib.hid (by rw [HTK.out]; exact IB2.out.setRow (Nat.lt_succ_self _)), Lib.hid (HR2.out.setRow_other _ (by omega)), Lib.hid (gr_newRow HG2.out hgw)⟩
          case measure => have := HLT.out; simp [intOf]; omega
        · have dE' : (E' != 0) = true := by simp [hE']
          have HB := Lib.hid (HBAD.out hE')
          have HB2 := HB.out
          injection HB2 with e1 e2
          injection e2 with e2 e3
          subst e1; subst e2; subst e3
          have HE9 := Lib.hid hE'
          clear HSTEP HBAD hE' HB
          go_wp2_with (refine wpList_store_part rfl 45 (.tmp 35) (.tmp 33) rfl g (j * 35) (icel x (.slice A3 x.u.length c3)) (by rfl) rfl 45 fs.toArray RG2 iz.out hold i1 ?_)
          go_ret2
          exact ⟨_, rfl, InsAt.nil _ _, fun h => absurd h HE9.out, gr_newRow HG2.out hgw⟩
      · obtain rfl : j = n := by omega
        have HE := lsJ_end (show LsJ (inT l) (TL, TP, TE) es 0 q by have := HJ.out; rwa [Nat.sub_self] at this)
        injection HE with e1 e2
        injection e2 with e2 e3
        subst e1; subst e2; subst e3
        clear HJ hlt hj
        have HRD : Hid (InsAt w.heap.size wr (.slice (some ⟨g, 0, none⟩) j j) TL) := Lib.hid (by
          have := InsAt.of_row (B := w.heap.size) (es := TL) HRG.out (by rw [HES.out]; exact HIB.out.mono (by omega)) (by have := HFL.out; have := HES.out; show TL.length * 35 ≤ _; omega) (Nat.le_refl _) (by have := HES.out; unfold maxLen; omega) (by omega)
          rwa [HES.out] at this)
        go_wp2_with fail
        go_ret2
        first | exact ⟨_, rfl, HRD.out, HRR.out, HG.out⟩ | exact ⟨_, rfl, HRD.out, fun _ => HRR.out, HG.out⟩
  · rw [if_pos hE]
    have dE : (E != 0) = true := by simp [hE]
    have HE0 := Lib.hid hE
    clear hE R h
    go_enter Tryd.func40, Tryd.ntmps40
    go_wp2_with fail
    refine HC.out.mono ?_
    rintro e w1 ⟨rfl, R1, G1⟩
    replace R1 := Lib.hid R1
    replace G1 := Lib.hid G1
    go_wp2_with fail
    go_ret2
    exact ⟨_, rfl, InsAt.nil _ _, fun h => absurd h HE0.out, G1.out⟩
end Go.Proofs.YtpijehaciomkhaaDoor
end

section
namespace Go.Proofs.YtpijehaciomkhaaDoor
open Go Go.RowKit
set_option linter.unusedVariables false
set_option linter.unusedSimpArgs false

def ocl (o : Outp) (u : Value) : List Value := [.int .u64 (o.v : Int), u]
def OutOk (o : Outp) : Prop := o.v ≤ 18446744073709551615
def outZ : Outp := ⟨0, []⟩
theorem ocl_length (o : Outp) (u : Value) (h : OutOk o) : (ocl o u).length = 2 := rfl
theorem ocel_size (o : Outp) (u : Value) (h : OutOk o) : (ocel o u).size = 2 := rfl
theorem oocel_one (o : Outp) (u : Value) (hu : u.oneCell' = true) : (ocel o u).all (·.oneCell') = true := by
  rw [Array.all_eq_true']
  intro x hx
  simp [ocel] at hx
  rcases hx with rfl | rfl
  · rfl
  · exact hu
theorem oosz (o : Outp) (u : Value) (h : OutOk o) : (Tryd.prog.info? 48).map (·.size) = some (ocel o u).size := outsz
theorem otT_ok (l : List UInt8) (at_ : Int) : OutOk (otT l at_).1 := by
  unfold otT OutOk
  split
  · exact Nat.zero_le _
  · unfold goT
    split
    · exact Nat.zero_le _
    · split
      · exact Nat.zero_le _
      · unfold gvT
        split
        · exact Nat.zero_le _
        · split
          · exact Nat.zero_le _
          · rename_i h1 h2
            simp only
            omega
/-- Outputs in a row of the call's own, whose unlocks lie behind B. -/
def OutsB (B : Nat) (w : World) (fs : List Value) (es : List Outp) : Prop := fs.length = es.length * 2 ∧ ∀ j (h : j < es.length), ∃ uv, outEl.cut fs j = ocl es[j] uv ∧ OutOk es[j] ∧ Own B w uv es[j].l
theorem OutsB.nil (B : Nat) (w : World) : OutsB B w [] [] := ⟨rfl, fun j h => by simp at h⟩
theorem OutsB.nx {B : Nat} {w w' : World} {fs : List Value} {es : List Outp} (h : OutsB B w fs es) (k : Nx w w') : OutsB B w' fs es := ⟨h.1, fun j hj => by obtain ⟨u, a, b, c⟩ := h.2 j hj; exact ⟨u, a, b, c.nx k⟩⟩
theorem OutsB.gr {B r : Nat} {w w' : World} {fs : List Value} {es : List Outp} (h : OutsB B w fs es) (k : w.grownBy w' (some r)) (hr : r < B) : OutsB B w' fs es := ⟨h.1, fun j hj => by obtain ⟨u, a, b, c⟩ := h.2 j hj; exact ⟨u, a, b, gr_own c k hr⟩⟩
theorem OutsB.setRow {B g : Nat} {w : World} {fs : List Value} {es : List Outp} {cs : Array Value} (h : OutsB B w fs es) (hg : g < B) : OutsB B (w.setRow g cs) fs es := ⟨h.1, fun j hj => by obtain ⟨u, a, b, c⟩ := h.2 j hj; exact ⟨u, a, b, own_setRow c hg⟩⟩
theorem OutsB.snoc {B : Nat} {w : World} {fs : List Value} {es : List Outp} {x : Outp} {uv : Value} (h : OutsB B w fs es) (hx : OutOk x) (ho : Own B w uv x.l) : OutsB B w (fs ++ ocl x uv) (es ++ [x]) := by
  refine ⟨by rw [List.length_append, List.length_append, h.1, ocl_length x uv hx, Nat.add_mul]; simp, fun j hj => ?_⟩
  by_cases hlt : j < es.length
  · obtain ⟨u, a, b, c⟩ := h.2 j hlt
    refine ⟨u, ?_, ?_, ?_⟩
    · rw [El.cut_left (L := outEl) h.1 hlt, List.getElem_append_left hlt]; exact a
    · rw [List.getElem_append_left hlt]; exact b
    · rw [List.getElem_append_left hlt]; exact c
  · have hj2 : j = es.length := by simp at hj; omega
    subst hj2
    have e : (es ++ [x])[es.length]'hj = x := by simp
    rw [e]
    refine ⟨uv, ?_, hx, ho⟩
    have := El.cut_right (L := outEl) (fs := fs) (us := ocl x uv) (n := es.length) (j := 0) h.1
    rw [Nat.add_zero] at this
    rw [this]
    unfold El.cut
    rw [Nat.zero_mul, List.drop_zero, List.take_of_length_le (by rw [ocl_length x uv hx]; exact Nat.le_refl _)]
theorem OutsB.all {B : Nat} {w : World} {fs : List Value} {es : List Outp} (h : OutsB B w fs es) : AllE outEl none w fs es := ⟨h.1, fun j hj => by
  obtain ⟨u, a, b, c⟩ := h.2 j hj
  exact ⟨u, a, b, c.rd, fun _ q hq => by cases hq⟩⟩
theorem OutsB.mono {B B' : Nat} {w : World} {fs : List Value} {es : List Outp} (h : OutsB B w fs es) (hB : B' ≤ B) : OutsB B' w fs es := ⟨h.1, fun j hj => by obtain ⟨u, a, b, c⟩ := h.2 j hj; exact ⟨u, a, b, c.mono hB⟩⟩
/-- A list that is read, all of it behind B. -/
def OutsAt (B : Nat) (w : World) (v : Value) (es : List Outp) : Prop := ∃ fs, RdF 2 w v es.length fs ∧ OutsB B w fs es ∧ (0 < es.length → ∀ q, v.ownBlock = some q → B ≤ q)
theorem OutsAt.nil (B : Nat) (w : World) : OutsAt B w (.slice none 0 0) [] := ⟨[], RdF.nil _ w, OutsB.nil _ _, fun h => by simp at h⟩
theorem OutsAt.rd {B : Nat} {w : World} {v : Value} {es : List Outp} (h : OutsAt B w v es) : RdE outEl w v es := by
  obtain ⟨fs, h1, h2, h3⟩ := h
  exact ⟨fs, h1, h2.all⟩
theorem OutsAt.nx {B : Nat} {w w' : World} {v : Value} {es : List Outp} (h : OutsAt B w v es) (k : Nx w w') : OutsAt B w' v es := by
  obtain ⟨fs, h1, h2, h3⟩ := h
  exact ⟨fs, h1.nx k, h2.nx k, h3⟩
theorem OutsAt.mono {B B' : Nat} {w : World} {v : Value} {es : List Outp} (h : OutsAt B w v es) (hB : B' ≤ B) : OutsAt B' w v es := by
  obtain ⟨fs, h1, h2, h3⟩ := h
  exact ⟨fs, h1, h2.mono hB, fun hp q hq => Nat.le_trans hB (h3 hp q hq)⟩
theorem OutsAt.sl {B : Nat} {w : World} {v : Value} {es : List Outp} (h : OutsAt B w v es) : ∃ A c, v = .slice A es.length c := by
  obtain ⟨fs, ⟨a0, a1, A, c, rfl, _⟩, h2, h3⟩ := h
  exact ⟨A, c, rfl⟩
theorem OutsAt.gr {B r : Nat} {w w' : World} {v : Value} {es : List Outp} (h : OutsAt B w v es) (k : w.grownBy w' (some r)) (hr : r < B) : OutsAt B w' v es := by
  obtain ⟨fs, ⟨a0, a1, A, c, rfl, a2, a3, a4⟩, h2, h3⟩ := h
  refine ⟨fs, ⟨a0, a1, A, c, rfl, a2, a3, fun hp => ?_⟩, h2.gr k hr, h3⟩
  obtain ⟨b, o, rfl, hb, hc⟩ := a4 hp
  have hne : b ≠ r := by
    have := h3 hp b (by simp [Value.ownBlock])
    omega
  have hblk := k.block b hb (fun e => hne (Option.some.inj e))
  refine ⟨b, o, rfl, Nat.lt_of_lt_of_le hb k.size, fun j hj => ?_⟩
  rw [← hc j hj]
  unfold World.cell?
  simp only [hblk]
theorem OutsAt.of_row {B : Nat} {w : World} {g c : Nat} {full : List Value} {t : TypeId} {es : List Outp} (R : Row w g full.toArray t) (hall : OutsB B w (full.take (es.length * 2)) es) (hf : es.length * 2 ≤ full.length) (hc : es.length ≤ c) (hm : c ≤ maxLen) (hg : B ≤ g) : OutsAt B w (.slice (some ⟨g, 0, none⟩) es.length c) es := by
  refine ⟨full.take (es.length * 2), ⟨by rw [List.length_take]; omega, hall.all.one, _, _, rfl, hc, hm, fun _ => ⟨g, 0, rfl, R.lt, fun j hj => ?_⟩⟩, hall, fun _ q hq => by
    have : g = q := by simpa [Value.ownBlock] using hq
    omega⟩
  rw [Nat.zero_add]
  have hj2 : j < es.length * 2 := by rw [List.length_take] at hj; omega
  exact R.cell (by rw [List.getElem?_toArray, List.getElem_take]; exact List.getElem?_eq_getElem _)
def outs16 : List Value := (List.replicate 16 (ocl outZ (.slice none 0 0))).flatten
theorem outs16_length : outs16.length = 32 := by decide +kernel
theorem makeO16 (w : World) : (Instr.makeSlice 37 (.int .i64 16) (.int .i64 16)).run Tryd.prog w = .ok (.slice (some ⟨w.heap.size, 0, none⟩) 16 16) (w.alloc (.cells outs16.toArray 48)) := by kernel_rfl
set_option maxRecDepth 100000 in
set_option maxHeartbeats 8000000 in
theorem tlistOut_any (r : Nat) (bv : Value) (l : List UInt8) (at_ : Int) (w : World) (R : Row w r (rdcs bv at_) 100) (h : RdS (some r) w bv l) (hl : l.length ≤ 140737488355328) :
    Calls Tryd.prog 42 #[.pointer (some ⟨r, 0, none⟩), .int .i64 16, .func (.func 43) #[] #[]] w fun e w' => ∃ v, e = .returned (.tuple #[v, .int .i64 (lsO (otT l) (cnT l at_ 16)).2.2]) ∧ OutsAt w.heap.size w' v (lsO (otT l) (cnT l at_ 16)).1 ∧ ((lsO (otT l) (cnT l at_ 16)).2.2 = 0 → Row w' r (rdcs bv (lsO (otT l) (cnT l at_ 16)).2.1) 100) ∧ w.grownBy w' (some r) := by
  have HC := tcount_any r bv l at_ 16 w R h hl (by decide)
  have hrl : r < w.heap.size := R.lt
  have HM := cnT_most l at_ 16
  unfold lsO
  generalize cnT l at_ 16 = C at *
  obtain ⟨n, p, E⟩ := C
  dsimp only at *
  replace HC := Lib.hid HC
  by_cases hE : E = 0
  · subst hE
    rw [if_neg (by simp)]
    have HT := Lib.hid (lsJ_begin (otT l) n p)
    generalize lsT (otT l) n p = T at *
    obtain ⟨TL, TP, TE⟩ := T
    dsimp only at *
    have HRS := Lib.hid h
    have HIN := Lib.hid (fun at_ w R (h : RdS (some r) w bv l) => tout_any r bv l at_ w R h hl)
    have MK := makeO16
    have h16 := Lib.hid outs16_length
    clear R h
    generalize outs16 = Z at *
    go_enter Tryd.func42, Tryd.ntmps42
    go_wp2_with fail
    refine HC.out.mono ?_
    rintro e w1 ⟨rfl, R1, G1⟩
    have HG1 := Lib.hid G1
    have hg1 : r < w1.heap.size := R1.lt
    have R1b := Lib.hid (R1.alloc (.cells Z.toArray 48))
    have G1b := Lib.hid (gr_trans G1 (gr_of ((Nx.refl w1).alloc (.cells Z.toArray 48))))
    have RZ := Lib.hid (Row.new w1 Z.toArray 48 _ rfl)
    have hws : w.heap.size ≤ w1.heap.size := G1.size
    clear R1 G1 HC HG1
    go_wp2_with fail
    generalize hW : w1.alloc (.cells Z.toArray 48) = W at *
    clear hW
    generalize w1.heap.size = g at *
    replace HT : Hid (LsJ (otT l) (TL, TP, TE) [] (n - 0) p) := HT
    go_loopw [24] (fun iv wr => ∃ (j : Nat) (es : List Outp) (fs : List Value) (q : Int), iv = .int .i64 (j : Int) ∧ j ≤ n ∧ Hid (es.length = j) ∧ Hid (LsJ (otT l) (TL, TP, TE) es (n - j) q) ∧ Hid (fs.length = 32) ∧ Hid (Row wr g fs.toArray 48) ∧ Hid (OutsB (g + 1) wr (fs.take (j * 2)) es) ∧ Hid (Row wr r (rdcs bv q) 100) ∧ Hid (w.grownBy wr (some r))) (fun iv _ => n - (intOf iv).toNat)
    case atStart => exact ⟨0, [], Z, p, rfl, Nat.zero_le _, Lib.hid rfl, HT, h16, RZ, Lib.hid (by rw [Nat.zero_mul, List.take_zero]; exact OutsB.nil _ _), R1b, G1b⟩
    case round =>
      clear HT RZ R1b G1b h16
      obtain ⟨j, es, fs, q, rfl, hj, HES, HJ, HFL, HRG, HIB, HRR, HG⟩ := hrel
      by_cases hlt : j < n
      · have HLT := Lib.hid hlt
        have hlt1 : (j : Int) < (n : Int) := by omega
        have hj16 : (j : Int) < 16 := by omega
        have hjn : j < 16 := by omega
        have HCL := Lib.hid (HIN.out q wr HRR.out (HRS.out.grown HG.out))
        have HOK := Lib.hid (otT_ok l q)
        have HJ1 : Hid (LsJ (otT l) (TL, TP, TE) es ((n - (j + 1)) + 1) q) := Lib.hid (by rw [show n - (j + 1) + 1 = n - j by omega]; exact HJ.out)
        have HSTEP := Lib.hid (fun h => lsJ_step HJ1.out h)
        have HBAD := Lib.hid (fun h => lsJ_bad HJ1.out h)
        clear hlt hj HJ HJ1 HRR
        generalize otT l q = X at *
        obtain ⟨x, q', E'⟩ := X
        dsimp only at *
        go_wp2_with fail
        refine HCL.out.mono ?_
        rintro e w2 ⟨uv, rfl, ho, R2, G2⟩
        obtain ⟨A3, c3, rfl, -⟩ := ho.rd
        have hgl : g < wr.heap.size := HRG.out.lt
        have RG2 := grw_row HRG.out G2 (by omega)
        have IB2 := Lib.hid ((HIB.out.gr G2 (by omega)).snoc HOK.out (ho.mono hgl))
        have OU := Lib.hid (ho.mono hgl)
        have HR2 := Lib.hid R2
        have HG2 := Lib.hid (gr_trans HG.out G2)
        have iz := Lib.hid (oosz x (.slice A3 x.l.length c3) HOK.out)
        have i1 := oocel_one x (.slice A3 x.l.length c3) rfl
        have hold : j * 2 + (ocel x (.slice A3 x.l.length c3)).size ≤ fs.toArray.size := by
          rw [ocel_size x _ HOK.out]
          have := HFL.out
          simp only [List.size_toArray]
          omega
        have hgw : w.heap.size ≤ g := hws
        clear ho R2 G2 HCL HRG HIB HG
        have HEQ : Hid ((fs.take (j * 2) ++ ((ocel x (.slice A3 x.l.length c3)).toList ++ fs.drop (j * 2 + (ocel x (.slice A3 x.l.length c3)).size))).toArray = (fs.take (j * 2) ++ ocl x (.slice A3 x.l.length c3) ++ fs.drop (j * 2 + 2)).toArray) := Lib.hid (by rw [ocel_size x _ HOK.out, List.append_assoc]; rfl)
        have HTK : Hid ((fs.take (j * 2) ++ ocl x (.slice A3 x.l.length c3) ++ fs.drop (j * 2 + 2)).take ((j + 1) * 2) = fs.take (j * 2) ++ ocl x (.slice A3 x.l.length c3)) := Lib.hid (by
          have e : (fs.take (j * 2) ++ ocl x (.slice A3 x.l.length c3)).length = (j + 1) * 2 := by
            rw [List.length_append, ocl_length x _ HOK.out, List.length_take]
            have := HFL.out
            omega
          rw [← e]
          exact List.take_left)
        have HFL2 : Hid ((fs.take (j * 2) ++ ocl x (.slice A3 x.l.length c3) ++ fs.drop (j * 2 + 2)).length = 32) := Lib.hid (by
          rw [List.length_append, List.length_append, ocl_length x _ HOK.out, List.length_take, List.length_drop]
          have := HFL.out
          omega)
        by_cases hE' : E' = 0
        · subst hE'
          have HST := Lib.hid (HSTEP.out rfl)
          clear HSTEP HBAD
          go_wp2_with (refine wpList_store_part rfl 48 (.tmp 35) (.tmp 33) rfl g (j * 2) (ocel x (.slice A3 x.l.length c3)) (by rfl) rfl 48 fs.toArray RG2 iz.out hold i1 ?_)
          go_roundw
          case rel => exact ⟨j + 1, es ++ [x], fs.take (j * 2) ++ ocl x (.slice A3 x.l.length c3) ++ fs.drop (j * 2 + 2), q', by go_num, HLT.out, Lib.hid (by rw [List.length_append, HES.out]; rfl), HST, HFL2, Lib.hid (by rw [HEQ.out]; exact RG2.setRow _), Lib.hid (by rw [HTK.out]; exact IB2.out.setRow (Nat.lt_succ_self _)), Lib.hid (HR2.out.setRow_other _ (by omega)), Lib.hid (gr_newRow HG2.out hgw)⟩
          case measure => have := HLT.out; simp [intOf]; omega
        · have dE' : (E' != 0) = true := by simp [hE']
          have HB := Lib.hid (HBAD.out hE')
          have HB2 := HB.out
          injection HB2 with e1 e2
          injection e2 with e2 e3
          subst e1; subst e2; subst e3
          have HE9 := Lib.hid hE'
          clear HSTEP HBAD hE' HB
          go_wp2_with (refine wpList_store_part rfl 48 (.tmp 35) (.tmp 33) rfl g (j * 2) (ocel x (.slice A3 x.l.length c3)) (by rfl) rfl 48 fs.toArray RG2 iz.out hold i1 ?_)
          go_ret2
          exact ⟨_, rfl, OutsAt.nil _ _, fun h => absurd h HE9.out, gr_newRow HG2.out hgw⟩
      · obtain rfl : j = n := by omega
        have HE := lsJ_end (show LsJ (otT l) (TL, TP, TE) es 0 q by have := HJ.out; rwa [Nat.sub_self] at this)
        injection HE with e1 e2
        injection e2 with e2 e3
        subst e1; subst e2; subst e3
        clear HJ hlt hj
        have HRD : Hid (OutsAt w.heap.size wr (.slice (some ⟨g, 0, none⟩) j j) TL) := Lib.hid (by
          have := OutsAt.of_row (B := w.heap.size) (es := TL) HRG.out (by rw [HES.out]; exact HIB.out.mono (by omega)) (by have := HFL.out; have := HES.out; show TL.length * 2 ≤ _; omega) (Nat.le_refl _) (by have := HES.out; unfold maxLen; omega) (by omega)
          rwa [HES.out] at this)
        go_wp2_with fail
        go_ret2
        first | exact ⟨_, rfl, HRD.out, HRR.out, HG.out⟩ | exact ⟨_, rfl, HRD.out, fun _ => HRR.out, HG.out⟩
  · rw [if_pos hE]
    have dE : (E != 0) = true := by simp [hE]
    have HE0 := Lib.hid hE
    clear hE R h
    go_enter Tryd.func42, Tryd.ntmps42
    go_wp2_with fail
    refine HC.out.mono ?_
    rintro e w1 ⟨rfl, R1, G1⟩
    replace R1 := Lib.hid R1
    replace G1 := Lib.hid G1
    go_wp2_with fail
    go_ret2
    exact ⟨_, rfl, OutsAt.nil _ _, fun h => absurd h HE0.out, G1.out⟩
end Go.Proofs.YtpijehaciomkhaaDoor
end
