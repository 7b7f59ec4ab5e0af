/- TEXTS OF OUR OWN, IN ONE FILE: heads and lists of hashes, what block needs of them. -/
import Derived.Test.YtpijehaciomkhaaDoorBa
import Derived.Test.YtpijehaciomkhaaDoorTk
import Derived.Test.YtpijehaciomkhaaDoorTl
import Derived.Test.YtpijehaciomkhaaDoorTi
import Derived.Laws.Rows
import Derived.Laws.CopyOwn
import Derived.Deep.WholeRow
import Derived.StillTailTactics
section
namespace Go.Proofs.YtpijehaciomkhaaDoor
open Go Go.RowKit
set_option linter.unusedVariables false
set_option linter.unusedSimpArgs false
set_option linter.unusedVariables false
set_option linter.unusedSimpArgs false

theorem Row.blwh {B g : Nat} {w w' : World} {cs : Array Value} {t : TypeId} (h : Row w g cs t) (hb : Below B w w') (hg : g < B) : Row w' g cs t := (hb.block g hg).trans h
theorem wpList_app2 {P : Program} {w : World} {ops : Array Oper} {rest : List Oper} {o : Oper} {a : Act} {Q : Exit → Act → World → Prop} (hgd : o.guard = none) (s x : Operand) (t : TypeId)
    (ho : o.op = .call { callee := .builtin .append, args := #[s, x], argTypes := #[t, t] })
    (ht : P.underlying t = some (.slice 5)) (hi : (P.info? 5).map (fun i => (i.zero, i.size, i.bytes)) = some (some (.int .u8 0), 1, 1))
    (B : Nat) (v vx : Value) (l m : List UInt8) (hs : a.eval s = v) (hx : a.eval x = vx) (hown : Own B w v l) (hr : Rd w vx m) (hlen : l.length + m.length ≤ 140737488355328) (hB : B ≤ w.heap.size)
    (h : ∀ v' w', Own B w' v' (l ++ m) → Below B w w' → w.grownBy w' v.ownBlock → (v'.ownBlock = v.ownBlock ∨ v'.ownBlock = some w.heap.size) → wpList P ops Q rest (a.put o.dst v') w') : wpList P ops Q (o :: rest) a w := by
  refine wpList_plain hgd fun K hK => ?_
  obtain ⟨i, hi0, hz, hsz, hby⟩ := info_parts hi
  obtain ⟨v', w', hr, h2, h3, h5⟩ := app_run (P := P) w t o.type i ht hi0 hz hsz hby B v vx l m hown hr hlen hB
  unfold Oper.wp execOp
  simp only [ho, resolve, invoke, builtin, Sem.run_bind, Sem.run_pure, Result.andThen_ok, List.map_toArray, List.map_cons, List.map_nil, hs, hx, hr]
  exact hK _ _ (h v' w' h2 (Own.below hB hown h3) h3 h5)
theorem Own.blt {B : Nat} {w : World} {v : Value} {l : List UInt8} (h : Own B w v l) : ∀ q, v.ownBlock = some q → q < w.heap.size := by
  intro q hq
  rcases h with ⟨rfl, _⟩ | ⟨g, full, rfl, hb, hg, _⟩
  · simp [Value.ownBlock] at hq
  · obtain rfl : g = q := by simpa [Value.ownBlock] using hq
    exact (Array.getElem?_eq_some_iff.1 hg).1
theorem apart_of {w w' : World} {B : Nat} {y v : Value} {l m : List UInt8} (hy : Own B w y l) (hv : Own w.heap.size w' v m) : RdS y.ownBlock w' v m := ⟨hv.rd, fun _ q hq he => by
  have := hy.blt q hq
  have := hv.block q he
  omega⟩
theorem RdS.next {u u' : World} {y a v : Value} {l : List UInt8} (h : RdS y.ownBlock u v l) (x : u.grownBy u' y.ownBlock) (ha : a.ownBlock = y.ownBlock ∨ a.ownBlock = some u.heap.size) : RdS a.ownBlock u' v l := by
  have h1 := h.grown x
  rcases ha with e | e
  · rw [e]; exact h1
  · exact ⟨h1.1, fun hp q hq he => (h.free.apart (s := a.ownBlock) (fun q hq => by rw [e] at hq; injection hq with hq; omega)).2 hp q hq he⟩
/-- What a head is. -/
structure HOk (p r : List UInt8) (t b n : Nat) : Prop where
  p : p.length = 32
  r : r.length = 32
  t : t < 4294967296
  b : b < 4294967296
  n : n < 4294967296
theorem hcel_at_p {p r : List UInt8} {t b n : Nat} (hp : p.length = 32) : ∀ (j : Nat) (v : Value), (hcel p)[j]? = some v → (hdc p r t b n)[j]? = some v := by
  intro j v hv
  have hj : j < p.length := by
    have := (Array.getElem?_eq_some_iff.1 hv).1
    rwa [hcel_size] at this
  rw [hcel_get p j hj] at hv
  rw [hd_p p r t b n j hj]
  exact hv
theorem hcel_at_r {p r : List UInt8} {t b n : Nat} (hp : p.length = 32) : ∀ (j : Nat) (v : Value), (hcel r)[j]? = some v → (hdc p r t b n)[32 + j]? = some v := by
  intro j v hv
  have hj : j < r.length := by
    have := (Array.getElem?_eq_some_iff.1 hv).1
    rwa [hcel_size] at this
  rw [hcel_get r j hj] at hv
  rw [hd_r p r t b n hp j hj]
  exact hv
theorem info_u8ph : (Tryd.prog.info? 5).map (fun i => (i.zero, i.size, i.bytes)) = some (some (.int .u8 0), 1, 1) := by kernel_rfl
theorem u32_up (n : Nat) (h : n < 4294967296) : IntKind.u64.wrap (n : Int) = (n : Int) := by rw [IntKind.wrap_u64, Int.emod_eq_of_lt (by omega) (by omega)]
end Go.Proofs.YtpijehaciomkhaaDoor
end

section
namespace Go.Proofs.YtpijehaciomkhaaDoor
open Go Go.RowKit
set_option linter.unusedVariables false
set_option linter.unusedSimpArgs false
set_option linter.unusedVariables false
set_option linter.unusedSimpArgs false

/-- The id of a head. -/
def hI (p r : List UInt8) (t b n : Nat) : List UInt8 := shaL (shaL (hdB p r t b n))
end Go.Proofs.YtpijehaciomkhaaDoor
end

section
namespace Go.Proofs.YtpijehaciomkhaaDoor
open Go Go.RowKit
set_option linter.unusedVariables false
set_option linter.unusedSimpArgs false

end Go.Proofs.YtpijehaciomkhaaDoor
end

section
namespace Go.Proofs.YtpijehaciomkhaaDoor
open Go Go.RowKit
set_option linter.unusedVariables false
set_option linter.unusedSimpArgs false
set_option linter.unusedVariables false
set_option linter.unusedSimpArgs false

/-- What Get answers. -/
structure HD where
  p : List UInt8
  r : List UInt8
  t : Nat
  b : Nat
  n : Nat
  at_ : Int
  e : Int
def HD.bad (e : Int) : HD := ⟨Z32h, Z32h, 0, 0, 0, 0, e⟩
def hdOf (L : List UInt8) (at_ : Int) : HD := ⟨L.take 32, (L.drop 32).take 32, num ((L.drop 64).take 4), num ((L.drop 68).take 4), num ((L.drop 72).take 4), at_, 0⟩
def hgT (l : List UInt8) (at_ : Int) : HD := if cutE l.length at_ 76 = 0 then hdOf (cutL l at_ 76) (at_ + 76) else .bad (cutE l.length at_ 76)
theorem cut76 {l : List UInt8} {at_ : Int} (h : cutE l.length at_ 76 = 0) : (cutL l at_ 76).length = 76 ∧ 0 ≤ at_ ∧ at_ + 76 ≤ l.length := by
  rcases cutE_cases l.length at_ 76 with ⟨_, h2⟩ | ⟨_, h2⟩ | ⟨i, m, rfl, hm, h1, h2⟩
  · rw [h2] at h; cases h
  · rw [h2] at h; cases h
  · obtain rfl : m = 76 := by omega
    unfold cutL
    rw [if_pos h, List.length_take, List.length_drop]
    omega
theorem getAt (L : List UInt8) (N : Nat) (h : L.length = N) (i m : Nat) (hm : m = 1 ∨ m = 2 ∨ m = 4 ∨ m = 8) (hi : i + m ≤ N) : getE L.length (i : Int) (m : Int) = 0 ∧ getN L (i : Int) (m : Int) = num ((L.drop i).take m) ∧ num ((L.drop i).take m) < 256 ^ m := by
  rcases get_cases L (i : Int) (m : Int) with ⟨h1, h2, h3⟩ | ⟨h1, h4, h2, h3⟩ | ⟨h1, h4, h2, h3⟩ | ⟨i', m', hi', hm', hmm, h1, h4, h2, h3⟩
  · exfalso
    have := isSz_no h1
    omega
  · exfalso; omega
  · exfalso; omega
  · obtain rfl : i = i' := by omega
    obtain rfl : m = m' := by omega
    refine ⟨h2, h3, ?_⟩
    have := num_lt ((L.drop i).take m)
    have hl : ((L.drop i).take m).length = m := by rw [List.length_take, List.length_drop]; omega
    rwa [hl] at this
theorem p4 : (256 : Nat) ^ 4 = 4294967296 := by decide
theorem hna_any (v : Value) (L : List UInt8) (i : Nat) (w : World) (h : Rd w v L) (hi : i + 4 ≤ L.length) :
    Calls Tryd.prog 50 #[v, .int .i64 (i : Int)] w fun e w' => e = .returned (.int .u32 (num ((L.drop i).take 4) : Int)) ∧ w = w' := by
  obtain ⟨g1, g2, g3⟩ := getAt L L.length rfl i 4 (by decide) hi
  have HG := Lib.hid (get_any v L (i : Int) 4 w h)
  rw [show getE L.length (i : Int) 4 = 0 from g1, show getN L (i : Int) 4 = _ from g2] at HG
  rw [p4] at g3
  obtain ⟨A, c, rfl, -, -, -⟩ := h
  generalize num ((L.drop i).take 4) = n at *
  have hw : IntKind.u32.wrap (n : Int) = (n : Int) := by rw [show IntKind.u32.wrap (n : Int) = (n : Int) % 4294967296 from rfl]; omega
  have hw2 : (n : Int) % 4294967296 = (n : Int) := by omega
  clear g1 g2 g3 hi
  go_enter Tryd.func50, Tryd.ntmps50
  go_wp2_with fail
  refine HG.out.mono ?_
  rintro e w' ⟨rfl, rfl⟩
  go_wp2_with fail
  go_ret
  exact ⟨rfl, rfl⟩
theorem hd_put_p {q r : List UInt8} {t b n : Nat} (p : List UInt8) (hq : q.length = 32) (hp : p.length = 32) : ((hdc q r t b n).toList.take 0 ++ (bvs p ++ (hdc q r t b n).toList.drop (0 + (bvs p).length))).toArray = hdc p r t b n := by
  rw [bvs_length, hp]
  simp [hdc, hdl, List.drop_append, bvs_length, hq]
theorem hd_put_r {p q : List UInt8} {t b n : Nat} (r : List UInt8) (hp : p.length = 32) (hq : q.length = 32) (hr : r.length = 32) : ((hdc p q t b n).toList.take 32 ++ (bvs r ++ (hdc p q t b n).toList.drop (32 + (bvs r).length))).toArray = hdc p r t b n := by
  rw [bvs_length, hr]
  simp [hdc, hdl, List.drop_append, List.take_append, bvs_length, hp, hq, List.take_of_length_le (Nat.le_of_eq (show (bvs p).length = 32 by rw [bvs_length, hp]))]
set_option maxRecDepth 100000 in
set_option maxHeartbeats 4000000 in
theorem hget_any (v : Value) (l : List UInt8) (at_ : Int) (w : World) (h : Rd w v l) (hr : l.length ≤ 140737488355328) :
    Calls Tryd.prog 31 #[v, .int .i64 at_] w fun e w' => e = .returned (.tuple #[.agg (hdc (hgT l at_).p (hgT l at_).r (hgT l at_).t (hgT l at_).b (hgT l at_).n), .int .i64 (hgT l at_).at_, .int .i64 (hgT l at_).e]) ∧ Nx w w' := by
  have HP := Lib.hid (fun w h => part_any v l at_ 76 w h hr)
  have HR := Lib.hid h
  obtain ⟨A, c, rfl, -⟩ := h
  obtain ⟨hz, hzs⟩ := zero_of_info info_head
  have HZL := Lib.hid Z32_lengthh
  have cz := Lib.hid (headsz Z32h Z32h 0 0 0 HZL.out HZL.out)
  have hl : w.heap.size ≤ w.heap.size := Nat.le_refl _
  unfold hgT
  by_cases hE : cutE l.length at_ 76 = 0
  · obtain ⟨q1, q2, q3⟩ := cut76 hE
    rw [if_pos hE]
    rw [hE] at HP
    unfold hdOf
    dsimp only
    have HQ := Lib.hid q1
    have q4 : at_ + 76 ≤ 9223372036854775807 := by omega
    have HN1 := Lib.hid (fun v w h => hna_any v (cutL l at_ 76) 64 w h (by omega))
    have HN2 := Lib.hid (fun v w h => hna_any v (cutL l at_ 76) 68 w h (by omega))
    have HN3 := Lib.hid (fun v w h => hna_any v (cutL l at_ 76) 72 w h (by omega))
    have HXL : Hid (((cutL l at_ 76).take 32).length = 32) := Lib.hid (by rw [List.length_take]; omega)
    have HYL : Hid ((((cutL l at_ 76).drop 32).take 32).length = 32) := Lib.hid (by rw [List.length_take, List.length_drop]; omega)
    clear hE q1 q3
    generalize cutL l at_ 76 = L at *
    generalize num ((L.drop 64).take 4) = T at *
    generalize num ((L.drop 68).take 4) = B at *
    generalize num ((L.drop 72).take 4) = N at *
    have HX : Hid (L.take 32 = L.take 32) := Lib.hid rfl
    generalize hX : L.take 32 = X at *
    generalize hY : (L.drop 32).take 32 = Y at *
    replace hX := Lib.hid hX
    replace hY := Lib.hid hY
    clear HX
    go_enter Tryd.func31, Tryd.ntmps31
    go_wp2_with fail
    refine (HP.out _ (HR.out.alloc _)).mono ?_
    rintro e w1 ⟨v1, rfl, o1, n1⟩
    have R4 := (Row.new w (hdc Z32h Z32h 0 0 0) 26 _ rfl).nx n1
    have N1 := Lib.hid (((Nx.refl w).alloc (.cells (hdc Z32h Z32h 0 0 0) 26)).trans n1)
    have O1 := Lib.hid o1.rd
    obtain ⟨A1, c1, rfl, -⟩ := o1.rd
    clear o1 n1
    go_wp2_with fail
    refine (HN1.out _ _ O1.out).mono ?_
    rintro e w2 ⟨rfl, rfl⟩
    go_wp2_with fail
    refine (HN2.out _ _ O1.out).mono ?_
    rintro e w2 ⟨rfl, rfl⟩
    go_wp2_with fail
    refine (HN3.out _ _ O1.out).mono ?_
    rintro e w2 ⟨rfl, rfl⟩
    have HU8 : (Tryd.prog.info? 5).map (·.size) = some 1 := by kernel_rfl
    have ip := Lib.hid (headsz Z32h Z32h T B N HZL.out HZL.out)
    have ix := Lib.hid (headsz X Y T B N HXL.out HYL.out)
    have jp := Lib.hid (headsame Z32h Z32h Z32h Z32h 0 0 0 T B N HZL.out HZL.out HZL.out HZL.out)
    have jx := Lib.hid (headsame Z32h Z32h X Y 0 0 0 T B N HZL.out HZL.out HXL.out HYL.out)
    have RP := Row.new w1 (hdc Z32h Z32h 0 0 0) 26 _ rfl
    have RP2 := RP.setRow (hdc Z32h Z32h T B N)
    have hsl := fun w' => slice_arr_at (P := Tryd.prog) 23 5 32 Tryd.underlying23 Tryd.sizeOf5 w1.heap.size 0 (by omega) w'
    have HSR := Lib.hid fun w' => slice_arr_at (P := Tryd.prog) 23 5 32 Tryd.underlying23 Tryd.sizeOf5 w1.heap.size 32 (by omega) w'
    have RL := O1.out
    obtain ⟨A1', c1', hA, hc1', -, ha1⟩ := RL
    obtain ⟨rfl, rfl⟩ : A1 = A1' ∧ c1 = c1' := by injection hA with h1 h2 h3; exact ⟨h1, h3⟩
    obtain ⟨b1, o1, rfl, hb1, hc1⟩ := ha1 (by rw [HQ.out]; decide)
    have NW : Hid (Nx w1 ((w1.alloc (.cells (hdc Z32h Z32h 0 0 0) 26)).setRow w1.heap.size (hdc Z32h Z32h T B N))) := Lib.hid (((Nx.refl w1).alloc _).setRow _ (Nat.le_refl _))
    have HN : Hid ((bvs X).length = Nat.min L.length 32) := Lib.hid (by rw [bvs_length, HXL.out, HQ.out]; rfl)
    have HF : Hid (0 + (bvs X).length ≤ (hdc Z32h Z32h T B N).size) := Lib.hid (by rw [bvs_length, HXL.out, hd_size _ _ _ _ _ HZL.out HZL.out]; decide)
    have HS : Hid (∀ j v, (bvs X)[j]? = some v → ((w1.alloc (.cells (hdc Z32h Z32h 0 0 0) 26)).setRow w1.heap.size (hdc Z32h Z32h T B N)).cell? ((⟨b1, o1, none⟩ : Addr).add j) = some v) := Lib.hid fun j v hv => by
      obtain ⟨hj, rfl⟩ := bvs_get hv
      rw [addr_add, NW.out.cell (p := ⟨b1, o1 + j, none⟩) hb1]
      have hjL : j < L.length := by have := HXL.out; have := HQ.out; omega
      rw [hc1 j hjL]
      congr 2
      simp only [← hX.out, List.getElem_take]
    have HEQ := Lib.hid (hd_put_p (r := Z32h) (t := T) (b := B) (n := N) X HZL.out HXL.out)
    have R42 := (R4.alloc (.cells (hdc Z32h Z32h 0 0 0) 26)).setRow_other (k := w1.heap.size) (hdc Z32h Z32h T B N) (Nat.ne_of_lt R4.lt)
    have RP3 := RP2.setRow (hdc X Z32h T B N)
    have R43 := R42.setRow_other (k := w1.heap.size) (hdc X Z32h T B N) (Nat.ne_of_lt R4.lt)
    have NW3 := Lib.hid (NW.out.setRow (hdc X Z32h T B N) (Nat.le_refl _))
    have HC1 := Lib.hid hc1
    have HNE := Lib.hid (Nat.ne_of_lt R4.lt)
    have HB1 := Lib.hid hb1
    have HCL : Hid (76 ≤ c1) := Lib.hid (by have := HQ.out; omega)
    clear hc1 hA ha1 hc1'
    go_wp2_with (first | (refine wpList_val (some 26) rfl rfl (.agg (hdc Z32h Z32h T B N)) ?_ ?_; (focus kernel_rfl)) | (refine wpList_store_row rfl 26 (.tmp 9) (.tmp 26) rfl w1.heap.size (hdc Z32h Z32h T B N) rfl rfl 26 (hdc Z32h Z32h 0 0 0) RP ip.out jp.out (hd_one _ _ _ _ _) ?_) | (refine wpList_copy_own rfl (.tmp 28) (.tmp 29) _ _ rfl 5 Tryd.underlying43 HU8 w1.heap.size 0 32 32 ⟨b1, o1, none⟩ L.length c1 rfl rfl (hdc Z32h Z32h T B N) 26 RP2 (bvs X) HN.out HS.out HF.out (bvs_one _) ?_; rw [HEQ.out]))
    simp only [Act.put, List.setIfInBounds_toArray, List.set_cons_zero, List.set_cons_succ]
    generalize (((w1.alloc (.cells (hdc Z32h Z32h 0 0 0) 26)).setRow w1.heap.size (hdc Z32h Z32h T B N)).setRow w1.heap.size (hdc X Z32h T B N)) = W3 at *
    clear hsl HS HN HF HEQ RP RP2 R4 R42 NW ip jp
    have hsr := HSR.out
    have hfr : ∀ w', (Instr.sliceAt 43 (.slice (some ⟨b1, o1, none⟩) L.length c1) (some (.int .i64 32)) none none).run Tryd.prog w' = .ok (.slice (some ⟨b1, o1 + 32, none⟩) (L.length - 32) (c1 - 32)) w' := fun w' => by
      have := slice_fromV (P := Tryd.prog) 43 5 Tryd.underlying43 Tryd.sizeOf5 (some ⟨b1, o1, none⟩) L.length c1 32 32 rfl (by have := HQ.out; omega) (by have := HCL.out; have := HQ.out; omega) w'
      rw [this]
      unfold fromV
      rw [if_neg (by have := HCL.out; omega)]
      simp [addr_add]
    have HN : Hid ((bvs Y).length = Nat.min (L.length - 32) 32) := Lib.hid (by rw [bvs_length, HYL.out, HQ.out]; rfl)
    have HF : Hid (32 + (bvs Y).length ≤ (hdc X Z32h T B N).size) := Lib.hid (by rw [bvs_length, HYL.out, hd_size _ _ _ _ _ HXL.out HZL.out]; decide)
    have HS : Hid (∀ j v, (bvs Y)[j]? = some v → W3.drew.cell? ((⟨b1, o1 + 32, none⟩ : Addr).add j) = some v) := Lib.hid fun j v hv => by
      obtain ⟨hj, rfl⟩ := bvs_get hv
      rw [addr_add, NW3.out.drew.cell (p := ⟨b1, o1 + 32 + j, none⟩) HB1.out]
      have hjL : 32 + j < L.length := by have := HYL.out; have := HQ.out; omega
      have := HC1.out (32 + j) hjL
      rw [← Nat.add_assoc] at this
      rw [this]
      congr 2
      simp only [← hY.out, List.getElem_take, List.getElem_drop]
    have HEQ := Lib.hid (hd_put_r (t := T) (b := B) (n := N) Y HXL.out HZL.out HYL.out)
    have RP4 := RP3.drew
    have RP5 := RP4.setRow (hdc X Y T B N)
    have R44 := (R43.drew).setRow_other (k := w1.heap.size) (hdc X Y T B N) HNE.out
    have NF := Lib.hid ((N1.out.trans NW3.out.drew).setRow (g := w1.heap.size) (hdc X Y T B N) N1.out.size)
    clear RP3 R43 HSR NW3 HC1 HB1
    go_still_tail 4, (by kernel_rfl)
    change wpList _ _ _ _ _ W3.drew
    refine wpList_copy_own rfl (.tmp 32) (.tmp 34) _ _ rfl 5 Tryd.underlying43 HU8 w1.heap.size 32 32 32 ⟨b1, o1 + 32, none⟩ (L.length - 32) (c1 - 32) rfl rfl (hdc X Z32h T B N) 26 RP4 (bvs Y) HN.out HS.out HF.out (bvs_one _) ?_
    rw [HEQ.out]
    go_wp2_with (first | (refine wpList_load_row rfl 26 (.tmp 9) rfl w1.heap.size rfl 26 (hdc X Y T B N) (0, 0) _ RP5 Tryd.underlying26 rfl ix.out ?_) | (refine wpList_store_row rfl 26 (.tmp 4) (.tmp 36) rfl w.heap.size (hdc X Y T B N) rfl rfl 26 (hdc Z32h Z32h 0 0 0) R44 ix.out jx.out (hd_one _ _ _ _ _) ?_))
    exact bodyPost_ret (results_cell_three Tryd.results31 _ _ w.heap.size 26 (hdc X Y T B N) (0, 0) _ rfl (R44.setRow _) Tryd.underlying26 rfl ix.out) rfl ⟨rfl, NF.out.setRow _ hl⟩
  · rw [if_neg hE]
    unfold HD.bad
    generalize cutE l.length at_ 76 = E at *
    generalize cutL l at_ 76 = L at *
    have dE : (E != 0) = true := by simp [hE]
    clear hE
    go_enter Tryd.func31, Tryd.ntmps31
    go_wp2_with fail
    refine (HP.out _ (HR.out.alloc _)).mono ?_
    rintro e w1 ⟨v1, rfl, o1, n1⟩
    have R4 := (Row.new w (hdc Z32h Z32h 0 0 0) 26 _ rfl).nx n1
    have N1 := Lib.hid (((Nx.refl w).alloc (.cells (hdc Z32h Z32h 0 0 0) 26)).trans n1)
    clear o1 n1
    go_wp2_with (first | (refine wpList_val (some 18) rfl rfl (.agg (hdc Z32h Z32h 0 0 0)) ?_ ?_; (focus kernel_rfl)) | (refine wpList_store_row rfl 26 (.tmp 4) (.tmp 18) rfl w.heap.size (hdc Z32h Z32h 0 0 0) rfl rfl 26 (hdc Z32h Z32h 0 0 0) R4 cz.out rfl (hd_one _ _ _ _ _) ?_))
    exact bodyPost_ret (results_cell_three Tryd.results31 _ _ w.heap.size 26 (hdc Z32h Z32h 0 0 0) (0, 0) _ rfl (R4.setRow _) Tryd.underlying26 rfl cz.out) rfl ⟨rfl, N1.out.setRow _ hl⟩
end Go.Proofs.YtpijehaciomkhaaDoor
end

section
namespace Go.Proofs.YtpijehaciomkhaaDoor
open Go Go.RowKit
set_option linter.unusedVariables false
set_option linter.unusedSimpArgs false
set_option linter.unusedVariables false
set_option linter.unusedSimpArgs false

theorem hgT_p (l : List UInt8) (at_ : Int) : (hgT l at_).p.length = 32 := by
  unfold hgT
  split
  · rename_i h
    obtain ⟨h1, -⟩ := cut76 h
    show ((cutL l at_ 76).take 32).length = 32
    rw [List.length_take]; omega
  · exact Z32_lengthh
theorem hgT_r (l : List UInt8) (at_ : Int) : (hgT l at_).r.length = 32 := by
  unfold hgT
  split
  · rename_i h
    obtain ⟨h1, -⟩ := cut76 h
    show (((cutL l at_ 76).drop 32).take 32).length = 32
    rw [List.length_take, List.length_drop]; omega
  · exact Z32_lengthh
theorem hgT_at (l : List UInt8) (at_ : Int) : (hgT l at_).e = 0 → (hgT l at_).at_ ≤ l.length := by
  unfold hgT
  split
  · rename_i h
    obtain ⟨h1, h2, h3⟩ := cut76 h
    intro _
    exact h3
  · rename_i h
    intro h2
    exact absurd h2 h
theorem low_four (q : List UInt8) (h : q.length = 4) : low (num q) 4 = q := by
  have := low_num q
  rwa [h] at this
theorem hdB_of (L : List UInt8) (h : L.length = 76) : hdB (L.take 32) ((L.drop 32).take 32) (num ((L.drop 64).take 4)) (num ((L.drop 68).take 4)) (num ((L.drop 72).take 4)) = L := by
  unfold hdB
  rw [low_four _ (by rw [List.length_take, List.length_drop]; omega), low_four _ (by rw [List.length_take, List.length_drop]; omega), low_four _ (by rw [List.length_take, List.length_drop]; omega)]
  have e5 : (L.drop 72).take 4 = L.drop 72 := List.take_of_length_le (by rw [List.length_drop]; omega)
  have e4 : (L.drop 68).take 4 ++ L.drop 72 = L.drop 68 := by
    have := List.take_append_drop 4 (L.drop 68)
    rwa [List.drop_drop] at this
  have e3 : (L.drop 64).take 4 ++ L.drop 68 = L.drop 64 := by
    have := List.take_append_drop 4 (L.drop 64)
    rwa [List.drop_drop] at this
  have e2 : (L.drop 32).take 32 ++ L.drop 64 = L.drop 32 := by
    have := List.take_append_drop 32 (L.drop 32)
    rwa [List.drop_drop] at this
  rw [e5, e4, e3, e2, List.take_append_drop]
theorem num_four (q : List UInt8) (h : q.length = 4) : num q < 4294967296 := by
  have := num_lt q
  rw [h, p4] at this
  exact this
theorem hgT_ok {l : List UInt8} {at_ : Int} (h : (hgT l at_).e = 0) : ∃ i : Nat, at_ = (i : Int) ∧ i + 76 ≤ l.length ∧ (hgT l at_).at_ = (i : Int) + 76 ∧ HOk (hgT l at_).p (hgT l at_).r (hgT l at_).t (hgT l at_).b (hgT l at_).n ∧ hdB (hgT l at_).p (hgT l at_).r (hgT l at_).t (hgT l at_).b (hgT l at_).n = (l.drop i).take 76 := by
  have hp := hgT_p l at_
  have hr := hgT_r l at_
  unfold hgT at h hp hr ⊢
  by_cases hE : cutE l.length at_ 76 = 0
  · rw [if_pos hE] at hp hr ⊢
    obtain ⟨q1, q2, q3⟩ := cut76 hE
    have hc : cutL l at_ 76 = (l.drop at_.toNat).take 76 := by unfold cutL; rw [if_pos hE]; rfl
    refine ⟨at_.toNat, by omega, by omega, by show at_ + 76 = _; omega, ⟨hp, hr, ?_, ?_, ?_⟩, ?_⟩
    · exact num_four _ (by rw [List.length_take, List.length_drop]; omega)
    · exact num_four _ (by rw [List.length_take, List.length_drop]; omega)
    · exact num_four _ (by rw [List.length_take, List.length_drop]; omega)
    · rw [← hc]
      exact hdB_of _ q1
  · rw [if_neg hE] at h
    exact absurd h hE
theorem hgT_e (l : List UInt8) (at_ : Int) : (hgT l at_).e = 0 ∨ (hgT l at_).e = 2 ∨ (hgT l at_).e = 4 := by
  unfold hgT
  by_cases hE : cutE l.length at_ 76 = 0
  · rw [if_pos hE]
    exact .inl rfl
  · rw [if_neg hE]
    show cutE l.length at_ 76 = 0 ∨ cutE l.length at_ 76 = 2 ∨ cutE l.length at_ 76 = 4
    unfold cutE
    split
    · exact .inr (.inl rfl)
    · split
      · exact .inr (.inr rfl)
      · exact .inl rfl
theorem hd_set_p (p r : List UInt8) (t b n i : Nat) (x : UInt8) (hi : i < p.length) : (hdc p r t b n).setIfInBounds i (.int .u8 (x.toNat : Int)) = hdc (p.set i x) r t b n := by
  have e : (bvs p).set i (.int .u8 (x.toNat : Int)) = bvs (p.set i x) := by simp [bvs, bv, List.map_set]
  simp only [hdc, hdl, List.setIfInBounds_toArray]
  rw [List.set_append_left _ _ (by rw [bvs_length]; exact hi), e]
theorem hd_set_r (p r : List UInt8) (t b n i : Nat) (x : UInt8) (hp : p.length = 32) (hi : i < r.length) : (hdc p r t b n).setIfInBounds (32 + i) (.int .u8 (x.toNat : Int)) = hdc p (r.set i x) t b n := by
  have e : (bvs r).set i (.int .u8 (x.toNat : Int)) = bvs (r.set i x) := by simp [bvs, bv, List.map_set]
  simp only [hdc, hdl, List.setIfInBounds_toArray]
  rw [List.set_append_right _ _ (by rw [bvs_length, hp]; omega), bvs_length, hp, Nat.add_sub_cancel_left, List.set_append_left _ _ (by rw [bvs_length]; exact hi), e]
theorem hd_set_t (p r : List UInt8) (t b n x : Nat) (hp : p.length = 32) (hr : r.length = 32) : (hdc p r t b n).setIfInBounds 64 (.int .u32 (x : Int)) = hdc p r x b n := by
  simp only [hdc, hdl, List.setIfInBounds_toArray]
  rw [List.set_append_right _ _ (by rw [bvs_length, hp]; omega), bvs_length, hp, List.set_append_right _ _ (by rw [bvs_length, hr]; omega), bvs_length, hr]
  rfl
theorem hd_set_b (p r : List UInt8) (t b n x : Nat) (hp : p.length = 32) (hr : r.length = 32) : (hdc p r t b n).setIfInBounds 65 (.int .u32 (x : Int)) = hdc p r t x n := by
  simp only [hdc, hdl, List.setIfInBounds_toArray]
  rw [List.set_append_right _ _ (by rw [bvs_length, hp]; omega), bvs_length, hp, List.set_append_right _ _ (by rw [bvs_length, hr]; omega), bvs_length, hr]
  rfl
theorem hd_set_n (p r : List UInt8) (t b n x : Nat) (hp : p.length = 32) (hr : r.length = 32) : (hdc p r t b n).setIfInBounds 66 (.int .u32 (x : Int)) = hdc p r t b x := by
  simp only [hdc, hdl, List.setIfInBounds_toArray]
  rw [List.set_append_right _ _ (by rw [bvs_length, hp]; omega), bvs_length, hp, List.set_append_right _ _ (by rw [bvs_length, hr]; omega), bvs_length, hr]
  rfl
end Go.Proofs.YtpijehaciomkhaaDoor
end
