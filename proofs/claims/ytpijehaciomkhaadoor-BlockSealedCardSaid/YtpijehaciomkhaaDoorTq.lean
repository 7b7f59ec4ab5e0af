/- TEXTS OF OUR OWN, IN ONE FILE. -/
import Derived.Test.YtpijehaciomkhaaDoorTp
import Derived.Test.YtpijehaciomkhaaDoorTh
section
namespace Go.Proofs.YtpijehaciomkhaaDoor
open Go Go.RowKit
set_option linter.unusedVariables false
set_option linter.unusedSimpArgs false

def txZ : Txn := ⟨[], [], 0⟩
/-- What Get answers. -/
def tgT (l : List UInt8) (at_ : Int) : Txn × Int × Int :=
  if (lsO (inT l) (cnT l at_ 16)).2.2 ≠ 0 then (txZ, 0, (lsO (inT l) (cnT l at_ 16)).2.2) else
  if (lsO (otT l) (cnT l (lsO (inT l) (cnT l at_ 16)).2.1 16)).2.2 ≠ 0 then (txZ, 0, (lsO (otT l) (cnT l (lsO (inT l) (cnT l at_ 16)).2.1 16)).2.2) else
  if getE l.length (lsO (otT l) (cnT l (lsO (inT l) (cnT l at_ 16)).2.1 16)).2.1 4 ≠ 0 then (txZ, 0, getE l.length (lsO (otT l) (cnT l (lsO (inT l) (cnT l at_ 16)).2.1 16)).2.1 4) else
  if 8000 < (lsO (otT l) (cnT l (lsO (inT l) (cnT l at_ 16)).2.1 16)).2.1 + 4 - at_ then (txZ, 0, 3) else
  (⟨(lsO (inT l) (cnT l at_ 16)).1, (lsO (otT l) (cnT l (lsO (inT l) (cnT l at_ 16)).2.1 16)).1, getN l (lsO (otT l) (cnT l (lsO (inT l) (cnT l at_ 16)).2.1 16)).2.1 4⟩, (lsO (otT l) (cnT l (lsO (inT l) (cnT l at_ 16)).2.1 16)).2.1 + 4, 0)
theorem gc_at {l : List UInt8} {at_ : Int} (h : (gc l at_).2.2 = 0) : 0 ≤ at_ ∧ at_ ≤ l.length := by
  rcases gc_cases l at_ with ⟨h1, h2⟩ | ⟨i, hi, rfl, -⟩
  · rw [h2] at h; exact absurd h h1
  · omega
theorem cnT_at {l : List UInt8} {at_ : Int} {m : Nat} (h : (cnT l at_ m).2.2 = 0) : 0 ≤ at_ ∧ at_ ≤ l.length := by
  unfold cnT at h
  split at h
  · rename_i h1; exact absurd h h1
  · rename_i h1; exact gc_at (Classical.not_not.1 h1)
theorem lsO_c {α : Type} {f : Int → α × Int × Int} {c : Nat × Int × Int} (h : (lsO f c).2.2 = 0) : c.2.2 = 0 ∧ lsO f c = lsT f c.1 c.2.1 := by
  unfold lsO at h ⊢
  split
  · rename_i h1; rw [if_pos h1] at h; exact absurd h h1
  · rename_i h1; exact ⟨Classical.not_not.1 h1, rfl⟩
theorem lsT_all {α : Type} {f : Int → α × Int × Int} {Pr : α → Prop} (h : ∀ p, Pr (f p).1) : ∀ (k : Nat) (p : Int), ∀ a ∈ (lsT f k p).1, Pr a := by
  intro k
  induction k with
  | zero => intro p a ha; simp [lsT] at ha
  | succ k ih =>
    intro p a ha
    simp only [lsT] at ha
    split at ha
    · simp at ha
    · split at ha
      · simp at ha
      · rcases List.mem_cons.1 ha with rfl | ha
        · exact h p
        · exact ih _ a ha
theorem lsO_all {α : Type} {f : Int → α × Int × Int} {Pr : α → Prop} (h : ∀ p, Pr (f p).1) (c : Nat × Int × Int) : ∀ a ∈ (lsO f c).1, Pr a := by
  unfold lsO
  split
  · intro a ha; simp at ha
  · exact lsT_all h _ _
theorem inT_u (l : List UInt8) (p : Int) : (inT l p).1.u.length ≤ 3000 := by
  unfold inT
  split
  · exact Nat.zero_le _
  · split
    · exact Nat.zero_le _
    · rename_i h1 h2
      obtain ⟨i, k, -, -, -, -, h⟩ := gr_got (Classical.not_not.1 h2)
      simp only
      omega
theorem otT_l (l : List UInt8) (p : Int) : (otT l p).1.l.length ≤ 100 := by
  unfold otT
  split
  · exact Nat.zero_le _
  · rename_i h1
    replace h1 := Classical.not_not.1 h1
    unfold goT at h1 ⊢
    split
    · exact Nat.zero_le _
    · rename_i h2
      rw [if_neg h2] at h1
      split
      · exact Nat.zero_le _
      · rename_i h3
        obtain ⟨i, k, -, -, -, -, h⟩ := gr_got (Classical.not_not.1 h3)
        simp only
        omega
theorem getN4_lt (l : List UInt8) (p : Int) : getN l p 4 < 4294967296 := by
  rcases get_cases l p 4 with ⟨h1, h2, h3⟩ | ⟨h1, h4, h2, h3⟩ | ⟨h1, h4, h2, h3⟩ | ⟨i, m, rfl, hm2, hm, h1, h4, h2, h3⟩
  · rw [h3]; decide
  · rw [h3]; decide
  · rw [h3]; decide
  · rw [h3]
    have := num_lt ((l.drop i).take m)
    have hl : ((l.drop i).take m).length ≤ 4 := by rw [List.length_take]; omega
    have h5 : 256 ^ ((l.drop i).take m).length ≤ 256 ^ 4 := Nat.pow_le_pow_right (by decide) hl
    have : (256 : Nat) ^ 4 = 4294967296 := by decide
    omega
theorem txz (iv ov : Value) (a : Nat) : (Tryd.prog.info? 39).map (·.size) = some (tcel iv ov a).size := info_tx
theorem info_tx2 : (Tryd.prog.info? 39).map (fun i => (i.zero, i.size)) = some (some (.agg #[.slice none 0 0, .slice none 0 0, .int .u32 0]), 3) := by kernel_rfl
theorem txAt_z (w : World) : TxAt w (.slice none 0 0) (.slice none 0 0) txZ := ⟨RdE.nil _, RdE.nil _, by decide, ⟨fun i h => by simp [txZ] at h, fun i h => by simp [txZ] at h⟩⟩
/-- A transaction whose memory lies behind B. -/
structure TxNew (B : Nat) (w : World) (iv ov : Value) (t : Txn) : Prop where
  i : InsAt B w iv t.ins
  o : OutsAt B w ov t.outs
  a : t.after < 4294967296
  g : TxG t
theorem TxNew.at {B : Nat} {w : World} {iv ov : Value} {t : Txn} (h : TxNew B w iv ov t) : TxAt w iv ov t := ⟨h.i.rd, h.o.rd, h.a, h.g⟩
theorem TxNew.nx {B : Nat} {w w' : World} {iv ov : Value} {t : Txn} (h : TxNew B w iv ov t) (k : Nx w w') : TxNew B w' iv ov t := ⟨h.i.nx k, h.o.nx k, h.a, h.g⟩
theorem TxNew.mono {B B' : Nat} {w : World} {iv ov : Value} {t : Txn} (h : TxNew B w iv ov t) (k : B' ≤ B) : TxNew B' w iv ov t := ⟨h.i.mono k, h.o.mono k, h.a, h.g⟩
theorem TxNew.gr {B r : Nat} {w w' : World} {iv ov : Value} {t : Txn} (h : TxNew B w iv ov t) (k : w.grownBy w' (some r)) (hr : r < B) : TxNew B w' iv ov t := ⟨h.i.gr k hr, h.o.gr k hr, h.a, h.g⟩
theorem txNew_z (B : Nat) (w : World) : TxNew B w (.slice none 0 0) (.slice none 0 0) txZ := ⟨InsAt.nil _ _, OutsAt.nil _ _, by decide, (txAt_z w).g⟩
set_option maxRecDepth 100000 in
set_option maxHeartbeats 8000000 in
theorem tget_any (bv : Value) (l : List UInt8) (at_ : Int) (w : World) (h : Rd w bv l) (hl : l.length ≤ 140737488355328) :
    Calls Tryd.prog 25 #[bv, .int .i64 at_] w fun e w' => ∃ iv ov, e = .returned (.tuple #[.agg (tcel iv ov (tgT l at_).1.after), .int .i64 (tgT l at_).2.1, .int .i64 (tgT l at_).2.2]) ∧ TxNew (w.heap.size + 1) w' iv ov (tgT l at_).1 ∧ Nx w w' := by
  have HS := Lib.hid (show RdS (some (w.heap.size + 1)) ((w.alloc (.cells #[.slice none 0 0, .slice none 0 0, .int .u32 0] 39)).alloc (.cells #[bv, .int .i64 at_] 100)) bv l from
    (RdS.apart (s := some (w.heap.size + 1)) (u := bv) (l := l) (w := w) ⟨h, fun _ q hq => by cases hq⟩ (fun q hq => by have := Option.some.inj hq; omega)).nx (((Nx.refl w).alloc _).alloc _))
  have HB := Lib.hid h
  obtain ⟨A, c, rfl, -⟩ := h
  have HR0 := Lib.hid (Row.new2 w (.cells #[.slice none 0 0, .slice none 0 0, .int .u32 0] 39) #[.slice A l.length c, .int .i64 at_] 100)
  have HT0 := Lib.hid ((Row.new w #[.slice none 0 0, .slice none 0 0, .int .u32 0] 39 _ rfl).alloc (.cells #[.slice A l.length c, .int .i64 at_] 100))
  have N0 := Lib.hid (((Nx.refl w).alloc (.cells #[.slice none 0 0, .slice none 0 0, .int .u32 0] 39)).alloc (.cells #[.slice A l.length c, .int .i64 at_] 100))
  have HSZ := Lib.hid (show ((w.alloc (.cells #[.slice none 0 0, .slice none 0 0, .int .u32 0] 39)).alloc (.cells #[.slice A l.length c, .int .i64 at_] 100)).heap.size = w.heap.size + 1 + 1 by simp)
  obtain ⟨hz, hzs⟩ := zero_of_info info_tx2
  have HI := Lib.hid (tlistIn_any (w.heap.size + 1) (.slice A l.length c) l at_ _ HR0.out HS.out hl)
  have HO := Lib.hid (fun p W R h => tlistOut_any (w.heap.size + 1) (.slice A l.length c) l p W R h hl)
  have HAT : Hid ((lsO (inT l) (cnT l at_ 16)).2.2 = 0 → 0 ≤ at_ ∧ at_ ≤ l.length) := Lib.hid (fun h => cnT_at (lsO_c h).1)
  have HIU := Lib.hid (lsO_all (Pr := fun i : Inp => i.u.length ≤ 3000) (fun p => inT_u l p) (cnT l at_ 16))
  have HOL := Lib.hid (fun c => lsO_all (Pr := fun o : Outp => o.l.length ≤ 100) (fun p => otT_l l p) c)
  unfold tgT
  generalize lsO (inT l) (cnT l at_ 16) = T at *
  obtain ⟨TL, TP, TE⟩ := T
  dsimp only at *
  by_cases hTE : TE = 0
  · subst hTE
    rw [if_neg (by simp)]
    have HU2 := Lib.hid (HOL.out (cnT l TP 16))
    replace HO := Lib.hid (HO.out TP)
    have HA := Lib.hid (HAT.out rfl)
    clear HAT HOL
    generalize lsO (otT l) (cnT l TP 16) = U at *
    obtain ⟨UL, UP, UE⟩ := U
    dsimp only at *
    by_cases hUE : UE = 0
    · subst hUE
      rw [if_neg (by simp)]
      have HG := Lib.hid (fun w h => get_any (.slice A l.length c) l UP 4 w h)
      have HOKK : Hid (getE l.length UP 4 = 0 → 0 ≤ UP ∧ UP + 4 ≤ l.length) := Lib.hid (fun h => by have := getE_ok h; omega)
      have HN4 := Lib.hid (getN4_lt l UP)
      generalize getE l.length UP 4 = F at *
      generalize getN l UP 4 = N at *
      by_cases hF : F = 0
      · subst hF
        rw [if_neg (by simp)]
        obtain ⟨p1, p2⟩ := HOKK.out rfl
        obtain ⟨p3, p4⟩ := HA.out
        have kw : IntKind.i64.wrap (UP + 4) = UP + 4 := IntWalk.i64_in _ (by omega)
        have kx : IntKind.i64.wrap (UP + 4 - at_) = UP + 4 - at_ := IntWalk.i64_in _ (by omega)
        have kn : IntKind.u32.wrap (N : Int) = (N : Int) := by rw [IntKind.wrap_u32]; have := HN4.out; omega
        have KW := Lib.hid kw
        clear p1 p2 p3 p4 HOKK HA
        by_cases hX : 8000 < UP + 4 - at_
        · rw [if_pos hX]
          go_enter Tryd.func25, Tryd.ntmps25
          go_wp2_with fail
          refine HI.out.mono ?_
          rintro e w1 ⟨v1, rfl, hv1, hr1, G1⟩
          have R1 := Lib.hid (hr1 (by first | exact rfl | trivial))
          have RT1 := Lib.hid (grw_row HT0.out G1 (by omega))
          have NN1 := Lib.hid (gr_below (B := w.heap.size) N0.out G1 (by simp) (by omega))
          have HS1 := Lib.hid (HS.out.grown G1)
          have HZ1 : Hid (w.heap.size + 1 + 1 ≤ w1.heap.size) := Lib.hid (by have := G1.size; have := HSZ.out; omega)
          have V0 : Hid (InsAt (w.heap.size + 1 + 1) w1 v1 TL) := Lib.hid (hv1.mono (by have := HSZ.out; omega))
          clear hv1 hr1 G1 HI HR0 HT0 N0 HS
          go_wp2_with fail
          refine (HO.out w1 R1.out HS1.out).mono ?_
          rintro e w2 ⟨v2, rfl, hv2, hr2, G2⟩
          have RT := grw_row RT1.out G2 (by omega)
          have NN : Hid (Nx w _) := Lib.hid (gr_below (B := w.heap.size) NN1.out G2 (Nat.le_refl _) (by omega))
          have R2 := hr2 (by first | exact rfl | trivial)
          have V1 : Hid (InsAt (w.heap.size + 1) w2 v1 TL) := Lib.hid ((V0.out.gr G2 (by omega)).mono (Nat.le_succ _))
          have V2 : Hid (OutsAt (w.heap.size + 1) w2 v2 UL) := Lib.hid (hv2.mono (by have := HZ1.out; omega))
          have HB2 := Lib.hid (HB.out.nx NN.out)
          have r1 := R2.cell (i := 1) (v := .int .i64 UP) rfl
          clear hv2 hr2 G2 HO R1 RT1 NN1 HS1 V0
          go_wp2_with fail
          refine (HG.out w2 HB2.out).mono ?_
          rintro e w3 ⟨rfl, rfl⟩
          have k0 := RT.cell (i := 0) (v := .slice none 0 0) rfl
          have k1 := RT.cell (i := 1) (v := .slice none 0 0) rfl
          have k2 := RT.cell (i := 2) (v := .int .u32 0) rfl
          have f0 := RT.frozen 0
          have f1 := RT.frozen 1
          have f2 := RT.frozen 2
          go_wp2_with fail
          exact bodyPost_ret (results_cell_row3 Tryd.results25 _ _ w.heap.size 39 (tcel (.slice none 0 0) (.slice none 0 0) 0) (0, 0) _ rfl (((RT.set 0 _).set 1 _).set 2 _) Tryd.underlying39 rfl (txz _ _ _)) rfl ⟨_, _, rfl, txNew_z _ _, ((NN.out.setAt (i := 0) _ (Nat.le_refl _)).setAt (i := 1) _ (Nat.le_refl _)).setAt (i := 2) _ (Nat.le_refl _)⟩
        · rw [if_neg hX]
          go_enter Tryd.func25, Tryd.ntmps25
          go_wp2_with fail
          refine HI.out.mono ?_
          rintro e w1 ⟨v1, rfl, hv1, hr1, G1⟩
          have R1 := Lib.hid (hr1 (by first | exact rfl | trivial))
          have RT1 := Lib.hid (grw_row HT0.out G1 (by omega))
          have NN1 := Lib.hid (gr_below (B := w.heap.size) N0.out G1 (by simp) (by omega))
          have HS1 := Lib.hid (HS.out.grown G1)
          have HZ1 : Hid (w.heap.size + 1 + 1 ≤ w1.heap.size) := Lib.hid (by have := G1.size; have := HSZ.out; omega)
          have V0 : Hid (InsAt (w.heap.size + 1 + 1) w1 v1 TL) := Lib.hid (hv1.mono (by have := HSZ.out; omega))
          clear hv1 hr1 G1 HI HR0 HT0 N0 HS
          go_wp2_with fail
          refine (HO.out w1 R1.out HS1.out).mono ?_
          rintro e w2 ⟨v2, rfl, hv2, hr2, G2⟩
          have RT := grw_row RT1.out G2 (by omega)
          have NN : Hid (Nx w _) := Lib.hid (gr_below (B := w.heap.size) NN1.out G2 (Nat.le_refl _) (by omega))
          have R2 := hr2 (by first | exact rfl | trivial)
          have V1 : Hid (InsAt (w.heap.size + 1) w2 v1 TL) := Lib.hid ((V0.out.gr G2 (by omega)).mono (Nat.le_succ _))
          have V2 : Hid (OutsAt (w.heap.size + 1) w2 v2 UL) := Lib.hid (hv2.mono (by have := HZ1.out; omega))
          have HB2 := Lib.hid (HB.out.nx NN.out)
          have r1 := R2.cell (i := 1) (v := .int .i64 UP) rfl
          clear hv2 hr2 G2 HO R1 RT1 NN1 HS1 V0
          go_wp2_with fail
          refine (HG.out w2 HB2.out).mono ?_
          rintro e w3 ⟨rfl, rfl⟩
          have k0 := RT.cell (i := 0) (v := .slice none 0 0) rfl
          have k1 := RT.cell (i := 1) (v := .slice none 0 0) rfl
          have k2 := RT.cell (i := 2) (v := .int .u32 0) rfl
          have f0 := RT.frozen 0
          have f1 := RT.frozen 1
          have f2 := RT.frozen 2
          obtain ⟨A1, c1, rfl⟩ := V1.out.sl
          obtain ⟨A2, c2, rfl⟩ := V2.out.sl
          have TN : Hid (TxNew (w.heap.size + 1) w2 (.slice A1 TL.length c1) (.slice A2 UL.length c2) ⟨TL, UL, N⟩) := Lib.hid ⟨V1.out, V2.out, HN4.out, ⟨fun i hi => by have := HIU.out i hi; omega, fun o ho => by have := HU2.out o ho; omega⟩⟩
          clear V1 V2
          go_wp2_with fail
          exact bodyPost_ret (results_cell_row3 Tryd.results25 _ _ w.heap.size 39 (tcel (.slice A1 TL.length c1) (.slice A2 UL.length c2) N) (0, 0) _ rfl (((RT.set 0 _).set 1 _).set 2 _) Tryd.underlying39 rfl (txz _ _ _)) rfl ⟨_, _, rfl, ((TN.out.gr (gr_set _ w.heap.size 0 _) (Nat.lt_succ_self _)).gr (gr_set _ w.heap.size 1 _) (Nat.lt_succ_self _)).gr (gr_set _ w.heap.size 2 _) (Nat.lt_succ_self _), ((NN.out.setAt (i := 0) _ (Nat.le_refl _)).setAt (i := 1) _ (Nat.le_refl _)).setAt (i := 2) _ (Nat.le_refl _)⟩
      · rw [if_pos hF]
        have dF : (F != 0) = true := by simp [hF]
        clear hF HOKK
        go_enter Tryd.func25, Tryd.ntmps25
        go_wp2_with fail
        refine HI.out.mono ?_
        rintro e w1 ⟨v1, rfl, hv1, hr1, G1⟩
        have R1 := Lib.hid (hr1 (by first | exact rfl | trivial))
        have RT1 := Lib.hid (grw_row HT0.out G1 (by omega))
        have NN1 := Lib.hid (gr_below (B := w.heap.size) N0.out G1 (by simp) (by omega))
        have HS1 := Lib.hid (HS.out.grown G1)
        have HZ1 : Hid (w.heap.size + 1 + 1 ≤ w1.heap.size) := Lib.hid (by have := G1.size; have := HSZ.out; omega)
        have V0 : Hid (InsAt (w.heap.size + 1 + 1) w1 v1 TL) := Lib.hid (hv1.mono (by have := HSZ.out; omega))
        clear hv1 hr1 G1 HI HR0 HT0 N0 HS
        go_wp2_with fail
        refine (HO.out w1 R1.out HS1.out).mono ?_
        rintro e w2 ⟨v2, rfl, hv2, hr2, G2⟩
        have RT := grw_row RT1.out G2 (by omega)
        have NN : Hid (Nx w _) := Lib.hid (gr_below (B := w.heap.size) NN1.out G2 (Nat.le_refl _) (by omega))
        have R2 := hr2 (by first | exact rfl | trivial)
        have V1 : Hid (InsAt (w.heap.size + 1) w2 v1 TL) := Lib.hid ((V0.out.gr G2 (by omega)).mono (Nat.le_succ _))
        have V2 : Hid (OutsAt (w.heap.size + 1) w2 v2 UL) := Lib.hid (hv2.mono (by have := HZ1.out; omega))
        have HB2 := Lib.hid (HB.out.nx NN.out)
        have r1 := R2.cell (i := 1) (v := .int .i64 UP) rfl
        clear hv2 hr2 G2 HO R1 RT1 NN1 HS1 V0
        go_wp2_with fail
        refine (HG.out w2 HB2.out).mono ?_
        rintro e w3 ⟨rfl, rfl⟩
        have k0 := RT.cell (i := 0) (v := .slice none 0 0) rfl
        have k1 := RT.cell (i := 1) (v := .slice none 0 0) rfl
        have k2 := RT.cell (i := 2) (v := .int .u32 0) rfl
        have f0 := RT.frozen 0
        have f1 := RT.frozen 1
        have f2 := RT.frozen 2
        go_wp2_with fail
        exact bodyPost_ret (results_cell_row3 Tryd.results25 _ _ w.heap.size 39 (tcel (.slice none 0 0) (.slice none 0 0) 0) (0, 0) _ rfl (((RT.set 0 _).set 1 _).set 2 _) Tryd.underlying39 rfl (txz _ _ _)) rfl ⟨_, _, rfl, txNew_z _ _, ((NN.out.setAt (i := 0) _ (Nat.le_refl _)).setAt (i := 1) _ (Nat.le_refl _)).setAt (i := 2) _ (Nat.le_refl _)⟩
    · rw [if_pos hUE]
      have dU : (UE != 0) = true := by simp [hUE]
      clear hUE
      go_enter Tryd.func25, Tryd.ntmps25
      go_wp2_with fail
      refine HI.out.mono ?_
      rintro e w1 ⟨v1, rfl, hv1, hr1, G1⟩
      have R1 := Lib.hid (hr1 (by first | exact rfl | trivial))
      have RT1 := Lib.hid (grw_row HT0.out G1 (by omega))
      have NN1 := Lib.hid (gr_below (B := w.heap.size) N0.out G1 (by simp) (by omega))
      have HS1 := Lib.hid (HS.out.grown G1)
      have HZ1 : Hid (w.heap.size + 1 + 1 ≤ w1.heap.size) := Lib.hid (by have := G1.size; have := HSZ.out; omega)
      have V0 : Hid (InsAt (w.heap.size + 1 + 1) w1 v1 TL) := Lib.hid (hv1.mono (by have := HSZ.out; omega))
      clear hv1 hr1 G1 HI HR0 HT0 N0 HS
      go_wp2_with fail
      refine (HO.out w1 R1.out HS1.out).mono ?_
      rintro e w2 ⟨v2, rfl, hv2, hr2, G2⟩
      have RT := grw_row RT1.out G2 (by omega)
      have NN : Hid (Nx w _) := Lib.hid (gr_below (B := w.heap.size) NN1.out G2 (Nat.le_refl _) (by omega))
      clear hv2 hr2 G2 HO R1 RT1 NN1 HS1 V0
      have k0 := RT.cell (i := 0) (v := .slice none 0 0) rfl
      have k1 := RT.cell (i := 1) (v := .slice none 0 0) rfl
      have k2 := RT.cell (i := 2) (v := .int .u32 0) rfl
      have f0 := RT.frozen 0
      have f1 := RT.frozen 1
      have f2 := RT.frozen 2
      go_wp2_with fail
      exact bodyPost_ret (results_cell_row3 Tryd.results25 _ _ w.heap.size 39 (tcel (.slice none 0 0) (.slice none 0 0) 0) (0, 0) _ rfl (((RT.set 0 _).set 1 _).set 2 _) Tryd.underlying39 rfl (txz _ _ _)) rfl ⟨_, _, rfl, txNew_z _ _, ((NN.out.setAt (i := 0) _ (Nat.le_refl _)).setAt (i := 1) _ (Nat.le_refl _)).setAt (i := 2) _ (Nat.le_refl _)⟩
  · rw [if_pos hTE]
    have dE : (TE != 0) = true := by simp [hTE]
    clear hTE HO HOL HIU HAT
    go_enter Tryd.func25, Tryd.ntmps25
    go_wp2_with fail
    refine HI.out.mono ?_
    rintro e w1 ⟨v, rfl, -, -, G1⟩
    have RT := grw_row HT0.out G1 (by omega)
    have NN : Hid (Nx w _) := Lib.hid (gr_below (B := w.heap.size) N0.out G1 (by simp) (by omega))
    have k0 := RT.cell (i := 0) (v := .slice none 0 0) rfl
    have k1 := RT.cell (i := 1) (v := .slice none 0 0) rfl
    have k2 := RT.cell (i := 2) (v := .int .u32 0) rfl
    have f0 := RT.frozen 0
    have f1 := RT.frozen 1
    have f2 := RT.frozen 2
    clear G1 HI HR0 HT0 N0 HS
    go_wp2_with fail
    exact bodyPost_ret (results_cell_row3 Tryd.results25 _ _ w.heap.size 39 (tcel (.slice none 0 0) (.slice none 0 0) 0) (0, 0) _ rfl (((RT.set 0 _).set 1 _).set 2 _) Tryd.underlying39 rfl (txz _ _ _)) rfl ⟨_, _, rfl, txNew_z _ _, ((NN.out.setAt (i := 0) _ (Nat.le_refl _)).setAt (i := 1) _ (Nat.le_refl _)).setAt (i := 2) _ (Nat.le_refl _)⟩
end Go.Proofs.YtpijehaciomkhaaDoor
end

section
namespace Go.Proofs.YtpijehaciomkhaaDoor
open Go Go.RowKit
set_option linter.unusedVariables false
set_option linter.unusedSimpArgs false

def rdX (l : List UInt8) : Txn × Int := if (tgT l 0).2.2 ≠ 0 then (txZ, (tgT l 0).2.2) else if (tgT l 0).2.1 ≠ l.length then (txZ, 5) else ((tgT l 0).1, 0)
set_option maxRecDepth 100000 in
set_option maxHeartbeats 8000000 in
theorem tread_any (bv : Value) (l : List UInt8) (w : World) (h : Rd w bv l) (hl : l.length ≤ 140737488355328) :
    Calls Tryd.prog 12 #[bv] w fun e w' => ∃ iv ov, e = .returned (.tuple #[.agg (tcel iv ov (rdX l).1.after), .int .i64 (rdX l).2]) ∧ TxNew (w.heap.size + 1) w' iv ov (rdX l).1 ∧ Nx w w' := by
  have HG := Lib.hid (fun w h => tget_any bv l 0 w h hl)
  have HB := Lib.hid (h.nx ((Nx.refl w).alloc (.cells #[.slice none 0 0, .slice none 0 0, .int .u32 0] 39)))
  obtain ⟨A, c, rfl, -⟩ := h
  have HT0 := Lib.hid (Row.new w #[.slice none 0 0, .slice none 0 0, .int .u32 0] 39 _ rfl)
  have N0 := Lib.hid ((Nx.refl w).alloc (.cells #[.slice none 0 0, .slice none 0 0, .int .u32 0] 39))
  have HSZ := Lib.hid (show (w.alloc (.cells #[.slice none 0 0, .slice none 0 0, .int .u32 0] 39)).heap.size = w.heap.size + 1 by simp)
  obtain ⟨hz, hzs⟩ := zero_of_info info_tx2
  have cz := Lib.hid info_tx
  unfold rdX
  generalize tgT l 0 = T at *
  obtain ⟨t, p, E⟩ := T
  dsimp only [tcel] at *
  by_cases hE : E = 0
  · subst hE
    rw [if_neg (by simp)]
    by_cases hp : p = (l.length : Int)
    · rw [if_neg (by simp [hp])]
      subst hp
      go_enter Tryd.func12, Tryd.ntmps12
      go_wp2_with fail
      refine (HG.out _ HB.out).mono ?_
      rintro e w1 ⟨iv, ov, rfl, TN, n1⟩
      obtain ⟨A1, c1, rfl⟩ := TN.i.sl
      obtain ⟨A2, c2, rfl⟩ := TN.o.sl
      have NN : Hid (Nx w (w1.alloc (.cells #[.slice A1 t.ins.length c1, .slice A2 t.outs.length c2, .int .u32 (t.after : Int)] 39))) := Lib.hid ((N0.out.trans n1).alloc _)
      have RT := (HT0.out.nx n1).alloc (.cells #[.slice A1 t.ins.length c1, .slice A2 t.outs.length c2, .int .u32 (t.after : Int)] 39)
      have RX := Row.new w1 #[.slice A1 t.ins.length c1, .slice A2 t.outs.length c2, .int .u32 (t.after : Int)] 39 _ rfl
      have TX : Hid (TxNew (w.heap.size + 1) (w1.alloc (.cells #[.slice A1 t.ins.length c1, .slice A2 t.outs.length c2, .int .u32 (t.after : Int)] 39)) (.slice A1 t.ins.length c1) (.slice A2 t.outs.length c2) t) := Lib.hid ((TN.nx ((Nx.refl w1).alloc _)).mono (by have := HSZ.out; omega))
      have k0 := RT.cell (i := 0) (v := .slice none 0 0) rfl
      have k1 := RT.cell (i := 1) (v := .slice none 0 0) rfl
      have k2 := RT.cell (i := 2) (v := .int .u32 0) rfl
      have f0 := RT.frozen 0
      have f1 := RT.frozen 1
      have f2 := RT.frozen 2
      clear TN n1 HG HB HT0 N0
      go_wp2_with (refine wpList_load_row rfl 39 (.tmp 4) rfl w1.heap.size rfl 39 #[.slice A1 t.ins.length c1, .slice A2 t.outs.length c2, .int .u32 (t.after : Int)] (0, 0) _ RX Tryd.underlying39 rfl cz.out ?_)
      exact bodyPost_ret (results_cell_row2 Tryd.results12 _ _ w.heap.size 39 (tcel (.slice A1 t.ins.length c1) (.slice A2 t.outs.length c2) t.after) (0, 0) _ rfl (((RT.set 0 _).set 1 _).set 2 _) Tryd.underlying39 rfl (txz _ _ _)) rfl ⟨_, _, rfl, ((TX.out.gr (gr_set _ w.heap.size 0 _) (Nat.lt_succ_self _)).gr (gr_set _ w.heap.size 1 _) (Nat.lt_succ_self _)).gr (gr_set _ w.heap.size 2 _) (Nat.lt_succ_self _), ((NN.out.setAt (i := 0) _ (Nat.le_refl _)).setAt (i := 1) _ (Nat.le_refl _)).setAt (i := 2) _ (Nat.le_refl _)⟩
    · rw [if_pos hp]
      have dp : (p != (l.length : Int)) = true := by simp [hp]
      clear hp
      go_enter Tryd.func12, Tryd.ntmps12
      go_wp2_with fail
      refine (HG.out _ HB.out).mono ?_
      rintro e w1 ⟨iv, ov, rfl, TN, n1⟩
      obtain ⟨A1, c1, rfl⟩ := TN.i.sl
      obtain ⟨A2, c2, rfl⟩ := TN.o.sl
      have NN : Hid (Nx w (w1.alloc (.cells #[.slice A1 t.ins.length c1, .slice A2 t.outs.length c2, .int .u32 (t.after : Int)] 39))) := Lib.hid ((N0.out.trans n1).alloc _)
      have RT := (HT0.out.nx n1).alloc (.cells #[.slice A1 t.ins.length c1, .slice A2 t.outs.length c2, .int .u32 (t.after : Int)] 39)
      have k0 := RT.cell (i := 0) (v := .slice none 0 0) rfl
      have k1 := RT.cell (i := 1) (v := .slice none 0 0) rfl
      have k2 := RT.cell (i := 2) (v := .int .u32 0) rfl
      have f0 := RT.frozen 0
      have f1 := RT.frozen 1
      have f2 := RT.frozen 2
      clear TN n1 HG HB HT0 N0
      go_wp2_with fail
      exact bodyPost_ret (results_cell_row2 Tryd.results12 _ _ w.heap.size 39 (tcel (.slice none 0 0) (.slice none 0 0) 0) (0, 0) _ rfl (((RT.set 0 _).set 1 _).set 2 _) Tryd.underlying39 rfl (txz _ _ _)) rfl ⟨_, _, rfl, txNew_z _ _, ((NN.out.setAt (i := 0) _ (Nat.le_refl _)).setAt (i := 1) _ (Nat.le_refl _)).setAt (i := 2) _ (Nat.le_refl _)⟩
  · rw [if_pos hE]
    have dE : (E != 0) = true := by simp [hE]
    clear hE
    go_enter Tryd.func12, Tryd.ntmps12
    go_wp2_with fail
    refine (HG.out _ HB.out).mono ?_
    rintro e w1 ⟨iv, ov, rfl, TN, n1⟩
    obtain ⟨A1, c1, rfl⟩ := TN.i.sl
    obtain ⟨A2, c2, rfl⟩ := TN.o.sl
    have NN : Hid (Nx w (w1.alloc (.cells #[.slice A1 t.ins.length c1, .slice A2 t.outs.length c2, .int .u32 (t.after : Int)] 39))) := Lib.hid ((N0.out.trans n1).alloc _)
    have RT := (HT0.out.nx n1).alloc (.cells #[.slice A1 t.ins.length c1, .slice A2 t.outs.length c2, .int .u32 (t.after : Int)] 39)
    have k0 := RT.cell (i := 0) (v := .slice none 0 0) rfl
    have k1 := RT.cell (i := 1) (v := .slice none 0 0) rfl
    have k2 := RT.cell (i := 2) (v := .int .u32 0) rfl
    have f0 := RT.frozen 0
    have f1 := RT.frozen 1
    have f2 := RT.frozen 2
    clear TN n1 HG HB HT0 N0
    go_wp2_with fail
    exact bodyPost_ret (results_cell_row2 Tryd.results12 _ _ w.heap.size 39 (tcel (.slice none 0 0) (.slice none 0 0) 0) (0, 0) _ rfl (((RT.set 0 _).set 1 _).set 2 _) Tryd.underlying39 rfl (txz _ _ _)) rfl ⟨_, _, rfl, txNew_z _ _, ((NN.out.setAt (i := 0) _ (Nat.le_refl _)).setAt (i := 1) _ (Nat.le_refl _)).setAt (i := 2) _ (Nat.le_refl _)⟩
end Go.Proofs.YtpijehaciomkhaaDoor
end
