/- LAYER 9: the walk of MerkleFresh. -/
import Derived.Test.YtjbeemoobmagnaaDoorLawMer1
namespace Go.Proofs.YtjbeemoobmagnaaDoor
open Go Go.RowKit
set_option linter.unusedVariables false
set_option linter.unusedSimpArgs false
set_option linter.unusedVariables false
set_option linter.unusedSimpArgs false

section
variable {P : Program}
theorem run_ixa (t e : TypeId) (m : Nat) (ht : P.underlying t = some (.array m e)) (k : Nat) (hsz : ∀ w, (sizeOf e).run P w = .ok k w) (b o j : Nat) (z : Int) (hz : z = j) (hj : j < m) (w : World) :
    (Instr.indexAt t (.pointer (some ⟨b, o, none⟩)) (.int .i64 z)).run P w = .ok (.pointer (some ⟨b, o + j * k, none⟩)) w := by
  subst hz
  have h1 : (j : Int) < (m : Int) := by omega
  simp [Instr.indexAt, Instr.sureAddr, asIntOf, run_underlying ht, hsz, h1, addr_add]
  intro h
  omega
theorem wp_ixa_of {o : Oper} {a : Act} {w : World} {K : Act → World → Prop} {Q : Exit → Act → World → Prop} (dst : Option Tmp) (hd : o.dst = dst) (t e : TypeId) (x ix : Operand) (ho : o.op = .indexAddr t x ix) (m : Nat)
    (ht : P.underlying t = some (.array m e)) (k : Nat) (hsz : ∀ w, (sizeOf e).run P w = .ok k w) (b q j : Nat) (z : Int) (hx : a.eval x = .pointer (some ⟨b, q, none⟩)) (hi : a.eval ix = .int .i64 z) (hz : z = j) (hj : j < m)
    (h : K (a.put dst (.pointer (some ⟨b, q + j * k, none⟩))) w) : o.wp P a w K Q := by
  refine wp_val_of dst hd _ ?_ h
  unfold execOp
  simp only [ho, hx, hi]
  simp only [Sem.run_bind, run_ixa t e m ht k hsz b q j z hz hj w, Result.andThen_ok, Sem.run_pure]
/-- A load of one cell. -/
theorem wp_load1_of {o : Oper} {a : Act} {w : World} {K : Act → World → Prop} {Q : Exit → Act → World → Prop} (dst : Option Tmp) (hd : o.dst = dst) (ty : TypeId) (x : Operand) (ho : o.op = .load ty x) (b q : Nat) (hx : a.eval x = .pointer (some ⟨b, q, none⟩))
    (ha : (isAgg ty).run P w = .ok false w) (v : Value) (hc : w.cell? ⟨b, q, none⟩ = some v) (h : K (a.put dst v) w) : o.wp P a w K Q := by
  refine wp_val_of dst hd _ ?_ h
  have hl : (loadVar ty ⟨b, q, none⟩).run P w = .ok v w := by simp [loadVar, Sem.run_bind, ha, hc]
  unfold execOp
  simp only [ho, hx, Instr.loadAt, Instr.sureAddr, Sem.run_bind, Sem.run_pure, Result.andThen_ok, hl]
/-- A store of one cell into a row that is known whole. -/
theorem wp_store1_of {o : Oper} {a : Act} {w : World} {K : Act → World → Prop} {Q : Exit → Act → World → Prop} (ty : TypeId) (x y : Operand) (ho : o.op = .store ty x y)
    (g k : Nat) (v : Value) (hv : v.cells = #[v]) (hx : a.eval x = .pointer (some ⟨g, k, none⟩)) (hy : a.eval y = v) (h1 : v.oneCell' = true)
    (t : TypeId) (old : Array Value) (hg : Row w g old t) (hi : (P.info? ty).map (·.size) = some 1) (hold : k + 1 ≤ old.size)
    (h : K (a.put o.dst undef) (w.setRow g (old.toList.take k ++ [v] ++ old.toList.drop (k + 1)).toArray)) : o.wp P a w K Q := by
  have := run_storeCells_at (P := P) g k t [v] 0 old w hg (by simpa using hold) (fun u hu => by rw [List.mem_singleton.1 hu]; exact h1)
  cases hq : P.info? ty with
  | none => simp [hq] at hi
  | some i =>
    have hs : i.size = 1 := by simpa [hq] using hi
    have hr : (storeVar ty ⟨g, k, none⟩ v).run P w = .ok () (w.setRow g (old.toList.take k ++ [v] ++ old.toList.drop (k + 1)).toArray) := by
      simp only [Nat.add_zero, List.length_singleton] at this
      simp [storeVar, sizeOf, typeInfo, hq, hv, hs, this]
    unfold Oper.wp execOp
    simp only [ho, hx, hy, Instr.storeAt, Instr.sureAddr, Sem.run_bind, Sem.run_pure, Result.andThen_ok, hr]
    exact h
end
/-- A list of hashes whose hash k begins with another byte. -/
def spoilH (F : Hs) (k : Nat) (z : UInt8) : Hs := F.set k ((F.getD k []).set 0 z)
theorem spoil_length (F : Hs) (k : Nat) (z : UInt8) : (spoilH F k z).length = F.length := by simp [spoilH]
theorem spoil_32 {F : Hs} (h : H32 F) {k : Nat} (hk : k < F.length) (z : UInt8) : H32 (spoilH F k z) := h.set _ _ (by rw [List.length_set]; exact h.getD hk)
theorem spoil_cells {F : Hs} (h : H32 F) {k : Nat} (hk : k < F.length) (z : UInt8) : (hfs F).take (k * 32) ++ [bv z] ++ (hfs F).drop (k * 32 + 1) = hfs (spoilH F k z) := by
  unfold spoilH
  have hl := hfs_length h
  have hx := h.getD hk
  rw [← hfs_set h k hk _ (by rw [List.length_set]; exact hx)]
  have hc := hfs_cut h k hk
  have hg : F.getD k [] = F[k] := by rw [List.getD_eq_getElem?_getD, List.getElem?_eq_getElem hk]; rfl
  rw [hg] at hx ⊢
  generalize F[k] = x at *
  have hd : (hfs F).drop (k * 32 + 1) = (bvs x).drop 1 ++ (hfs F).drop (k * 32 + 32) := by
    rw [← hc, List.drop_take, List.drop_drop]
    exact (List.take_append_drop 31 _).symm.trans (by rw [List.drop_drop])
  rw [hd]
  rcases x with _ | ⟨y, r⟩
  · simp at hx
  · simp [bvs, bv]
theorem spoil_get {F : Hs} (h : H32 F) {k : Nat} (hk : k < F.length) : ∃ x : UInt8, (hfs F)[k * 32]? = some (bv x) := by
  have hc := hfs_cut h k hk
  have hx := h.get hk
  have h0 : (((hfs F).drop (k * 32)).take 32)[0]? = (bvs F[k])[0]? := by rw [hc]
  rw [List.getElem?_take_of_lt (by decide), List.getElem?_drop, Nat.add_zero] at h0
  rcases hF : F[k] with _ | ⟨y, r⟩
  · rw [hF] at hx; simp at hx
  · rw [hF] at h0
    exact ⟨y, by rw [h0]; rfl⟩
/-- What the steps hold. -/
def J10 (w0 : World) (v : Value) (g k : Nat) (x0 nb : Int) (n32 : List Value) (L : Nat → Bool) (x : Nat → Value) (w' : World) : Prop :=
  (L 8 = false → Nx w0 w') ∧ (L 0 = true → x 0 = v) ∧ (L 1 = true → x 1 = .int .i64 (k : Int)) ∧ (L 2 = true → x 2 = .pointer (some ⟨g, 0 + k * 32, none⟩)) ∧ (L 3 = true → x 3 = .pointer (some ⟨g, 0 + k * 32 + 0 * 1, none⟩)) ∧ (L 4 = true → x 4 = .int .u8 x0) ∧ (L 5 = true → x 5 = .int .u8 nb) ∧ (L 6 = true → x 6 = .pointer (some ⟨g, 0 + k * 32, none⟩)) ∧ (L 7 = true → x 7 = .pointer (some ⟨g, 0 + k * 32 + 0 * 1, none⟩)) ∧ (L 8 = true → ∃ wq, Nx w0 wq ∧ w' = wq.setRow g n32.toArray)

set_option maxRecDepth 100000 in
set_option maxHeartbeats 8000000 in
theorem merkleFresh_law {w : World} (v0 : Value) (l0 : Hs) (h0 : RdE elH w v0 l0) (n : Int) (hn1 : -9223372036854775808 ≤ n) (hn2 : n ≤ 9223372036854775807) (hk : KIs w) :
    Calls Tryd.prog 11 #[v0, .int .i64 n] w fun e w' => e = .returned (.bool true) ∧ Nx w w' := by
  have HK := Lib.hid hk
  obtain ⟨A0, c0, rfl, hc0, hm0, -⟩ := h0.h_parts
  have HR0 := Lib.hid h0
  have hc0' := Lib.hid hc0
  have hm0' := Lib.hid hm0
  clear h0 hk hc0 hm0
  go_enter Tryd.func11, Tryd.ntmps11
  go_upto_if 15 with fail
  go_cut [0] (fun sl wx => wx = w ∧ Hid (RdE elH wx sl (l0.take 100)))
  case first =>
    by_cases hle : l0.length ≤ 100
    · have ht : decide ((100 : Int) < (l0.length : Int)) = false := by simp; omega
      have ht2 : decide (100 < l0.length) = false := by simp; omega
      go_wp2_with fail
      go_meet
      exact ⟨rfl, Lib.hid (by rw [List.take_of_length_le hle]; exact HR0.out)⟩
    · have ht : decide ((100 : Int) < (l0.length : Int)) = true := by simp; omega
      have ht2 : decide (100 < l0.length) = true := by simp; omega
      have hs := slice_to_k (P := Tryd.prog) 46 30 Tryd.underlying46 32 Tryd.sizeOf30 A0 l0.length c0 100 100 rfl (by have := hc0'.out; omega)
      go_wp2_with fail
      go_meet
      exact ⟨rfl, Lib.hid (HR0.out.pre 100 c0 (by omega) (by have := hc0'.out; omega) hm0'.out)⟩
  case rest =>
    obtain ⟨rfl, HR1⟩ := hcut
    clear HR0
    have HL1 := Lib.hid (take_len l0 100)
    generalize l0.take 100 = l at *
    clear hc0' hm0'
    obtain ⟨fs, hF, hA⟩ := HR1.out
    obtain ⟨Al, cl, hvl, -⟩ := HR1.out.h_parts
    subst hvl
    have C1 := Lib.hid (fun W v (x : Nx wc W) (hr : RdE elH W v l) => mroot_any v l W hr (by have := HL1.out; omega) (HK.out.nx x))
    have C3 := Lib.hid (fun W v (x : Nx wc W) (hr : RdE elH W v l) => mway_all v l n W hr (by have := HL1.out; omega) (HK.out.nx x))
    have C4 := Lib.hid (fun W v (hr : RdE elH W v l) => rway_all v l n W hr (by have := HL1.out; omega))
    have C7 : Hid (∀ W v1 v2, RdE elH W v1 l → RdE elH W v2 l → Calls Tryd.prog 37 #[v1, v2] W fun e w' => e = .returned (.bool true) ∧ Nx W w') := Lib.hid fun W v1 v2 r1 r2 => by
      have := hashes_any v1 v2 l l W r1 r2 (by have := HL1.out; omega)
      rwa [show decide (l = l) = true by simp] at this
    have C6 : Hid (∀ W v1 v2, RdE elH W v1 (wayO l n) → RdE elH W v2 (wayO l n) → Calls Tryd.prog 37 #[v1, v2] W fun e w' => e = .returned (.bool true) ∧ Nx W w') := Lib.hid fun W v1 v2 r1 r2 => by
      have := hashes_any v1 v2 (wayO l n) (wayO l n) W r1 r2 (wayO_le l n HL1.out)
      rwa [show decide (wayO l n = wayO l n) = true by simp] at this
    have C8 := Lib.hid (fun W (x : Nx wc W) => mworks_any W (HK.out.nx x))
    have HFL : Hid ((wayO l n).length ≤ 100) := Lib.hid (by
      unfold wayO
      split
      · have := wayF_le2 l n.toNat
        have := HL1.out
        omega
      · simp)
    generalize wayO l n = F at *
    generalize wayE l n = E at *
    replace hF := Lib.hid hF
    replace hA := Lib.hid hA
    have HN0 := Lib.hid (Nx.refl wc)
    have HLL : Hid (l.length ≤ 100) := HL1
    generalize hll : l.length = ln at *
    replace hll := Lib.hid hll
    go_wp2_with (at_builtin; refine wpList_appE2 elH rfl (.tmp 18) (.tmp 19) 46 rfl (.agg (hcel (List.replicate 32 0))) 32 Tryd.underlying46 info_hash3 info_hash3z wc.heap.size (.slice none 0 0) (.slice Al ln cl) [] l fs rfl rfl (OwnE.nil _ _) (by rw [hll.out]; exact hF.out) hA.out ?e1 ?e2 (Nat.le_refl _) ?_)
    case e1 => rw [hll.out]; have := HLL.out; simp only [List.length_nil]; omega
    case e2 => rw [hll.out]; have := HLL.out; simp only [List.length_nil, maxLen]; omega
    intro v5 w5 o5 b5 g5 e5
    have O5 := Lib.hid o5
    have N5 : Nx wc w5 := b5
    have RL5 := Lib.hid (HR1.out.nx N5)
    clear o5 b5 g5 e5 hF hA
    go_wp2_with fail
    refine (C1.out _ _ N5 O5.out.rd).mono ?_
    rintro e wB ⟨rfl, n6⟩
    have NB := N5.trans n6
    have RM := Lib.hid (O5.out.rd.nx n6)
    have RL := Lib.hid (RL5.out.nx n6)
    clear n6 RL5 O5 N5
    go_wp2_with fail
    refine (C3.out _ _ NB RM.out).mono ?_
    rintro e w7 ⟨v7, rfl, o7, n7⟩
    have O7 := Lib.hid o7
    have N7 := Lib.hid n7
    clear o7 n7
    obtain ⟨A7, c7, hv7, -⟩ := O7.out.rd.h_parts
    subst hv7
    have HF0 : Hid (F.length = F.length) := Lib.hid rfl
    obtain ⟨fn, hfn⟩ : ∃ fn, F.length = fn := ⟨_, rfl⟩
    rw [hfn]
    have HFN : Hid (fn ≤ 100) := Lib.hid (by rw [← hfn]; exact HFL.out)
    have O7' : Hid (OwnE elH wB.heap.size w7 (.slice A7 fn c7) F) := Lib.hid (by rw [← hfn]; exact O7.out)
    replace hfn := Lib.hid hfn
    clear O7 HF0
    go_wp2_with fail
    go_loopw [8] (fun i wr => ∃ (k : Nat) (G : Hs), i = .int .i64 (k : Int) ∧ Hid (k ≤ fn) ∧ Hid (G.length = fn) ∧ Hid (OwnE elH wB.heap.size wr (.slice A7 fn c7) G) ∧ Hid (Nx wB wr)) (fun i _ => fn - (intOf i).toNat)
    case atStart => exact ⟨0, F, rfl, Lib.hid (Nat.zero_le _), hfn, O7', N7⟩
    case round =>
      clear O7' N7
      obtain ⟨k, G, rfl, hk, hG, HO, HN⟩ := hrel
      have hfi : (fn : Int) ≤ 100 := by have := HFN.out; omega
      by_cases hlt : k < fn
      · have hlti : (k : Int) < (fn : Int) := by omega
        obtain ⟨gs, ⟨hl0, hor⟩, hall⟩ := HO.out
        obtain ⟨h32, rfl⟩ := allE_is hall
        rcases hor with ⟨he, hz0⟩ | ⟨g, c, full, he, hgB, hgr, hfc, hnc, hcm, htk⟩
        · exfalso
          rw [hG.out] at hz0
          omega
        · rw [hG.out] at he
          injection he with he1 he2 he3
          subst he1 he3
          have hkG : k < G.length := by rw [hG.out]; exact hlt
          obtain ⟨x0, hx0⟩ := spoil_get h32 hkG
          have hfull : full.length = c7 * 32 := hfc
          have hGc : G.length ≤ c7 := hnc
          have htk2 : full.take (G.length * 32) = hfs G := htk
          have hfk : full[k * 32]? = some (bv x0) := by
            rw [← hx0, ← htk2, List.getElem?_take_of_lt (by omega)]
          have RG : Row wr g full.toArray 30 := hgr
          have HRG := Lib.hid RG
          have hcellk : Hid (∀ W, Nx wr W → W.cell? ⟨g, 0 + k * 32 + 0 * 1, none⟩ = some (.int .u8 (x0.toNat : Int))) := Lib.hid fun W h => (RG.nx h).cell (by simp; exact hfk)
          obtain ⟨nb, hnb⟩ : ∃ nb : UInt8, IntKind.u8.wrap ((x0.toNat : Int) + 1) = (nb.toNat : Int) := ⟨UInt8.ofNat ((x0.toNat + 1) % 256), by
            rw [IntKind.wrap_u8']
            have := x0.toNat_lt
            simp only [UInt8.toNat_ofNat']
            omega⟩
          have HNB := Lib.hid hnb
          have HSP : Hid (full.take (k * 32) ++ [bv nb] ++ full.drop (k * 32 + 1) = hfs (spoilH G k nb) ++ full.drop (G.length * 32)) := Lib.hid (by
            rw [← spoil_cells h32 hkG nb, ← htk2]
            have hlt2 : k * 32 + 1 ≤ G.length * 32 := by omega
            rw [List.take_take, Nat.min_eq_left (by omega), List.drop_take, List.append_assoc, List.append_assoc, List.append_assoc]
            congr 2
            have : full.drop (G.length * 32) = (full.drop (k * 32 + 1)).drop (G.length * 32 - (k * 32 + 1)) := by rw [List.drop_drop]; congr 1; omega
            rw [this, List.take_append_drop])
          have HOW : Hid (∀ W, Row W g (hfs (spoilH G k nb) ++ full.drop (G.length * 32)).toArray 30 → OwnE elH wB.heap.size W (.slice (some ⟨g, 0, none⟩) fn c7) (spoilH G k nb)) := Lib.hid fun W hW => by
            have hl2 : (spoilH G k nb).length = fn := by rw [spoil_length]; exact hG.out
            have h322 := spoil_32 h32 hkG nb
            refine ⟨hfs (spoilH G k nb), ⟨hfs_length h322, .inr ⟨g, c7, _, by rw [hl2], hgB, hW, ?_, by rw [spoil_length]; exact hGc, hcm, ?_⟩⟩, allE_hfs h322 _ _⟩
            · rw [List.length_append, hfs_length h322, spoil_length, List.length_drop, hfull]
              show G.length * 32 + (c7 * 32 - G.length * 32) = c7 * 32
              omega
            · rw [show (spoilH G k nb).length * elH.k = (hfs (spoilH G k nb)).length by rw [hfs_length h322]; rfl]
              exact List.take_left
          have HKC : Hid (k * 32 + 1 ≤ full.toArray.size) := Lib.hid (by rw [List.size_toArray, hfull]; omega)
          have HGB := Lib.hid hgB
          have HSL := Lib.hid (spoil_length G k nb)
          clear hl0 hall hgr hfc hnc htk hx0 hfull hGc htk2 hfk RG hgB hcm hnb h32 hkG
          generalize hfs (spoilH G k nb) ++ full.drop (G.length * 32) = newf at *
          generalize spoilH G k nb = G2 at *
          replace hlt := Lib.hid hlt
          go_wp2_with fail
          refine wp_region_J 9 [[], [], [0, 1], [2], [3], [4], [0, 1], [6, 0, 1, 2, 3, 4, 5], [7, 5, 0, 1, 2, 3, 4, 5]] [some 35, some 36, some 37, some 38, some 39, some 40, some 41, some 42, none] (J10 wr (.slice (some ⟨g, 0, none⟩) fn c7) g k (x0.toNat : Int) (nb.toNat : Int) newf)
            (by kernel_rfl) (by kernel_rfl) (hord_of (by decide)) (by kernel_rfl) rfl (by decide) ?_ ?_ ?_
          · intro x hx0
            exact ⟨fun _ => (Nx.refl wr).drew, (fun h => by cases h), (fun h => by cases h), (fun h => by cases h), (fun h => by cases h), (fun h => by cases h), (fun h => by cases h), (fun h => by cases h), (fun h => by cases h), (fun h => by cases h)⟩
          · rintro L x tm W htm ⟨hN, F0, F1, F2, F3, F4, F5, F6, F7, F8⟩ hcl i hi hL hd late K hK
            simp only [fillA, List.setIfInBounds_toArray, List.set_cons_zero, List.set_cons_succ] at htm
            subst htm
            have c8 : L 8 = true → ∀ j, j < 8 → L j = true := fun h => by
              have a7 := hcl 8 h 7 (by decide)
              have a5 := hcl 8 h 5 (by decide)
              have a6 := hcl 7 a7 6 (by decide)
              have a0 := hcl 7 a7 0 (by decide)
              have a1 := hcl 7 a7 1 (by decide)
              have a2 := hcl 7 a7 2 (by decide)
              have a3 := hcl 7 a7 3 (by decide)
              have a4 := hcl 7 a7 4 (by decide)
              intro j hj
              have : j = 0 ∨ j = 1 ∨ j = 2 ∨ j = 3 ∨ j = 4 ∨ j = 5 ∨ j = 6 ∨ j = 7 := by omega
              rcases this with rfl | rfl | rfl | rfl | rfl | rfl | rfl | rfl <;> assumption
            have h8 : L 8 = false := by
              rcases h : L 8 with _ | _
              · rfl
              · rcases Nat.lt_or_ge i 8 with h1 | h1
                · rw [c8 h i h1] at hL; cases hL
                · obtain rfl : i = 8 := by omega
                  rw [h] at hL; cases hL
            have NW := hN h8
            have hcs : i = 0 ∨ i = 1 ∨ i = 2 ∨ i = 3 ∨ i = 4 ∨ i = 5 ∨ i = 6 ∨ i = 7 ∨ i = 8 := by omega
            clear hi
            rcases hcs with rfl | rfl | rfl | rfl | rfl | rfl | rfl | rfl | rfl
            · exact wpOp_of rfl rfl (wp_val_of (some 35) rfl (.slice (some ⟨g, 0, none⟩) fn c7) (by kernel_rfl) (hK _ _ ⟨hN, fun _ => rfl, F1, F2, F3, F4, F5, F6, F7, F8⟩))
            · exact wpOp_of rfl rfl (wp_val_of (some 36) rfl (.int .i64 (k : Int)) (by kernel_rfl) (hK _ _ ⟨hN, F0, fun _ => rfl, F2, F3, F4, F5, F6, F7, F8⟩))
            · exact wpOp_of rfl rfl (wp_ix_of (some 37) rfl 46 30 (.tmp 35) (.tmp 36) rfl Tryd.underlying46 32 Tryd.sizeOf30 g 0 fn c7 k (k : Int) (F0 (hd 0 (by decide))) (F1 (hd 1 (by decide))) rfl hlt.out (hK _ _ ⟨hN, F0, F1, fun _ => rfl, F3, F4, F5, F6, F7, F8⟩))
            · exact wpOp_of rfl rfl (wp_ixa_of (some 38) rfl 30 5 (.tmp 37) (.const (.int .i64 0)) rfl 32 Tryd.underlying30 1 Tryd.sizeOf5 g (0 + k * 32) 0 0 (F2 (hd 2 (by decide))) rfl rfl (by decide) (hK _ _ ⟨hN, F0, F1, F2, fun _ => rfl, F4, F5, F6, F7, F8⟩))
            · exact wpOp_of rfl rfl (wp_load1_of (some 39) rfl 5 (.tmp 38) rfl g (0 + k * 32 + 0 * 1) (F3 (hd 3 (by decide))) (Tryd.isAgg5 _) _ (hcellk.out _ NW) (hK _ _ ⟨hN, F0, F1, F2, F3, fun _ => rfl, F5, F6, F7, F8⟩))
            · have e4 := F4 (hd 4 (by decide))
              refine wpOp_of rfl rfl (wp_val_of (some 40) rfl (.int .u8 (nb.toNat : Int)) ?_ (hK _ _ ⟨hN, F0, F1, F2, F3, F4, fun _ => rfl, F6, F7, F8⟩))
              rw [← HNB.out]
              clear hK F4
              generalize x 4 = y4 at *
              subst e4
              kernel_rfl
            · exact wpOp_of rfl rfl (wp_ix_of (some 41) rfl 46 30 (.tmp 35) (.tmp 36) rfl Tryd.underlying46 32 Tryd.sizeOf30 g 0 fn c7 k (k : Int) (F0 (hd 0 (by decide))) (F1 (hd 1 (by decide))) rfl hlt.out (hK _ _ ⟨hN, F0, F1, F2, F3, F4, F5, fun _ => rfl, F7, F8⟩))
            · exact wpOp_of rfl rfl (wp_ixa_of (some 42) rfl 30 5 (.tmp 41) (.const (.int .i64 0)) rfl 32 Tryd.underlying30 1 Tryd.sizeOf5 g (0 + k * 32) 0 0 (F6 (hd 6 (by decide))) rfl rfl (by decide) (hK _ _ ⟨hN, F0, F1, F2, F3, F4, F5, F6, fun _ => rfl, F8⟩))
            · have e7 := F7 (hd 7 (by decide))
              have e5 := F5 (hd 5 (by decide))
              refine wpOp_of rfl rfl (wp_store1_of 5 (.tmp 42) (.tmp 40) rfl g (k * 32) (.int .u8 (nb.toNat : Int)) rfl (by rw [show 0 + k * 32 + 0 * 1 = k * 32 by omega] at e7; exact e7) e5 rfl 30 full.toArray (HRG.out.nx NW) (by kernel_rfl) HKC.out (hK _ _ ?_))
              exact ⟨fun h => (by cases h), F0, F1, F2, F3, F4, F5, F6, F7, fun _ => ⟨W, NW, by rw [← HSP.out]⟩⟩
          · rintro L x tm W htm ⟨hN, F0, F1, F2, F3, F4, F5, F6, F7, F8⟩ hall
            simp only [fillA, List.setIfInBounds_toArray, List.set_cons_zero, List.set_cons_succ] at htm
            subst htm
            obtain ⟨wq, nq, rfl⟩ := F8 (hall 8 (by decide))
            have RN := (HRG.out.nx nq).setRow newf.toArray
            have ON := Lib.hid (HOW.out _ RN)
            have NN := Lib.hid ((HN.out.trans nq).setRow newf.toArray HGB.out)
            clear hN F0 F1 F2 F3 F4 F5 F6 F7 F8 hall RN
            go_wp2_with fail
            go_roundw
            case rel => exact ⟨k + 1, G2, by go_num, Lib.hid (by have := hlt.out; omega), Lib.hid (by rw [HSL.out]; exact hG.out), ON, NN⟩
            case measure => have := hlt.out; simp [intOf]; omega
      · have hlti : ¬ (k : Int) < (fn : Int) := by omega
        have RM2 := Lib.hid (RM.out.nx HN.out)
        have RL2 := Lib.hid (RL.out.nx HN.out)
        have N2 := NB.trans HN.out
        clear hlt RM RL HO
        go_wp2_with fail
        refine (C3.out _ _ N2 RL2.out).mono ?_
        rintro e w9 ⟨v9, rfl, o9, n9⟩
        have RV9 := Lib.hid o9.rd
        have RM3 := Lib.hid (RM2.out.nx n9)
        have RL3 := Lib.hid (RL2.out.nx n9)
        have N9 := N2.trans n9
        clear o9 n9 RM2 RL2 N2
        go_wp2_with fail
        refine (C4.out _ _ RL3.out).mono ?_
        rintro e w10 ⟨v10, rfl, o10, n10⟩
        have RV10 := Lib.hid o10.rd
        have RV9b := Lib.hid (RV9.out.nx n10)
        have RM4 := Lib.hid (RM3.out.nx n10)
        have RL4 := Lib.hid (RL3.out.nx n10)
        have N10 := N9.trans n10
        clear o10 n10 RM3 RL3 N9 RV9
        go_wp2_with fail
        refine (C7.out _ _ _ RL4.out RM4.out).mono ?_
        rintro e w11 ⟨rfl, n11⟩
        go_wp2_with fail
        refine (C6.out _ _ _ (RV9b.out.nx n11) (RV10.out.nx n11)).mono ?_
        rintro e w12 ⟨rfl, n12⟩
        go_wp2_with fail
        refine (C8.out _ ((N10.trans n11).trans n12)).mono ?_
        rintro e w13 ⟨rfl, n13⟩
        go_wp2_with fail
        go_ret
        exact ⟨rfl, ((N10.trans n11).trans n12).trans n13⟩
end Go.Proofs.YtjbeemoobmagnaaDoor
