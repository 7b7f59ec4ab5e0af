/- CONTRACTS OF LAYER 2: Sum. -/
import Derived.Test.YtpgdfboogjapeaaDoorSha5
import Derived.Test.YtpgdfboogjapeaaDoorRegMore
import Derived.Deep.CutRange
import Derived.Deep.DeepCutAuto
namespace Go.Proofs.YtpgdfboogjapeaaDoor
open Go.RowKit
set_option linter.unusedVariables false
set_option linter.unusedSimpArgs false

theorem own_from {B : Nat} {w : World} {f : FuncId} {args : Array Value} {l : List UInt8} (hB : B ≤ w.heap.size) (h : Calls Tryd.prog f args w fun e w' => ∃ v, e = .returned v ∧ Own w.heap.size w' v l ∧ Nx w w') :
    Calls Tryd.prog f args w fun e w' => ∃ v, e = .returned v ∧ Own B w' v l ∧ Nx w w' := h.mono fun _ _ ⟨v, he, ho, hn⟩ => ⟨v, he, ho.mono hB, hn⟩
def Sum1 (ZZ : List UInt8) (A : Option Addr) (n c wh : Nat) (S1 : St) (w W : World) (_u : Value) (L : Nat → Bool) (ac : Act) (wr : World) : Prop :=
  ∃ x0 x1 x2 x3 x4 x5 : Value, ac = ⟨#[Value.slice A n c, undef, Value.pointer (some { block := w.heap.size, off := 0 }), Value.int IntKind.i64 ↑wh, x5, Value.slice A n c, Value.int IntKind.i64 ↑n, Value.slice A n c, Value.int IntKind.i64 ↑n, Value.int IntKind.i64 (↑n % 64), Value.int IntKind.i64 ↑wh, x0, x1, x2, x3, x4, undef, undef, undef, undef, undef, undef, undef, undef, undef, undef, undef], []⟩ ∧ Nx w wr ∧ W.heap.size ≤ wr.heap.size ∧ Row wr w.heap.size (hcel ZZ) 24 ∧ (L 0 = true → x0 = .agg (ints .u32 beginS.list)) ∧ (L 1 = true → x1 = .slice A n c) ∧ (L 2 = true → x2 = .int .i64 (wh : Int)) ∧ (L 3 = true → x3 = .slice A wh c) ∧ (L 4 = true → x4 = .agg (ints .u32 S1.list)) ∧ (L 5 = true → ∃ g, x5 = .pointer (some ⟨g, 0, none⟩) ∧ W.heap.size ≤ g ∧ Row wr g (if L 6 = true then (ints .u32 S1.list) else (ints .u32 [0, 0, 0, 0, 0, 0, 0, 0])) 34) ∧ (L 6 = true → L 5 = true)
def Sum2 (ZZ : List UInt8) (A : Option Addr) (n c wh g5 : Nat) (S1 S2 : St) (LD PB H : List UInt8) (w W : World) (_u : Value) (L : Nat → Bool) (ac : Act) (wr : World) : Prop :=
  ∃ x0 x1 x2 x3 x4 x5 x6 x7 x8 x9 x10 : Value, ac = ⟨#[Value.slice A n c, undef, Value.pointer (some { block := w.heap.size, off := 0 }), Value.int IntKind.i64 ↑wh, Value.pointer (some { block := g5, off := 0 }), Value.slice A n c, Value.int IntKind.i64 ↑n, Value.slice A n c, Value.int IntKind.i64 ↑n, Value.int IntKind.i64 (↑n % 64), Value.int IntKind.i64 ↑wh, Value.agg (ints IntKind.u32 beginS.list), Value.slice A n c, Value.int IntKind.i64 ↑wh, Value.slice A wh c, Value.agg (ints IntKind.u32 S1.list), x0, x1, x2, x3, x4, x5, x6, x7, x8, x9, x10], []⟩ ∧ Nx w wr ∧ W.heap.size ≤ wr.heap.size ∧ Row wr w.heap.size (if L 11 = true then hcel H else (hcel ZZ)) 24 ∧ Row wr g5 (ints .u32 S1.list) 34 ∧ (L 0 = true → x0 = .agg (ints .u32 S1.list)) ∧ (L 1 = true → x1 = .slice A n c) ∧ (L 2 = true → x2 = .int .i64 (wh : Int)) ∧ (L 3 = true → x3 = fromV A n c wh) ∧ (L 4 = true → x4 = .slice A n c) ∧ (L 5 = true → x5 = .int .i64 (n : Int)) ∧ (L 6 = true → L 11 = false → Own W.heap.size wr x6 PB) ∧ (L 7 = true → L 11 = false → CatAt x7 [LD, PB] wr) ∧ (L 8 = true → L 11 = false → Own W.heap.size wr x8 (LD ++ PB)) ∧ (L 9 = true → x9 = .agg (ints .u32 S2.list)) ∧ (L 10 = true → x10 = .agg (hcel H)) ∧ (L 11 = true → L 6 = true) ∧ (L 11 = true → L 7 = true) ∧ (L 11 = true → L 8 = true) ∧ (L 11 = true → L 9 = true)

set_option maxHeartbeats 4000000 in
set_option maxRecDepth 100000 in
theorem sum_any (vb : Value) (l : List UInt8) (w : World) (hk : KIs w) (hr : Rd w vb l) (hn : l.length ≤ 140737488355000) :
    Calls Tryd.prog 9 #[vb] w fun e w' => e = .returned (.agg (hcel (shaL l))) ∧ Nx w w' := by
  obtain ⟨hz, hzs⟩ := zero_of_info info_hash'
  obtain ⟨hz8, hzs8⟩ := zero_of_info info_w8
  have HKK := Lib.hid hk
  have HPARTS := Lib.hid (shaS_parts l)
  have HREST := Lib.hid (rest_length l)
  have HOK1 : Hid (beginS.rounds (l.take (l.length - l.length % 64)) (l.length / 64)).ok := Lib.hid (St.ok.rounds begin_ok _ _)
  have HOKS : Hid (shaS l).ok := Lib.hid (St.ok.rounds begin_ok _ _)
  have HHL : Hid ((shaL l).length = 32) := Lib.hid (shaL_length l)
  have HT : Hid (∀ w, Calls Tryd.prog 29 #[.agg (ints .u32 (shaS l).list)] w fun e w' => e = .returned (.agg (hcel (shaL l))) ∧ Nx w w') := Lib.hid fun w => told_any (shaS l) w HOKS.out
  obtain ⟨A, c, rfl, hc, hm, ha⟩ := hr
  have HR1 : Hid (∀ wr, Nx w wr → Calls Tryd.prog 28 #[.agg (ints .u32 beginS.list), .slice A (l.length - l.length % 64) c] wr fun e w' => e = .returned (.agg (ints .u32 (beginS.rounds (l.take (l.length - l.length % 64)) (l.length / 64)).list)) ∧ Nx wr w') := Lib.hid fun wr h =>
    rounds_any beginS _ _ _ wr begin_ok (HKK.out.nx h) ((Rd.pre ha (m := l.length - l.length % 64) (by omega) (by omega) hm).nx h) (by rw [List.length_take]; omega) (by rw [List.length_take]; omega)
  have HR2 : Hid (∀ wr v, Nx w wr → Rd wr v (l.drop (l.length - l.length % 64) ++ padB l.length) → Calls Tryd.prog 28 #[.agg (ints .u32 (beginS.rounds (l.take (l.length - l.length % 64)) (l.length / 64)).list), v] wr fun e w' => e = .returned (.agg (ints .u32 (shaS l).list)) ∧ Nx wr w') := Lib.hid fun wr v h hr => by
    rw [HPARTS.out]
    exact rounds_any _ _ _ v wr HOK1.out (HKK.out.nx h) hr HREST.out (by have := rest_length l; unfold gapN at this; omega)
  have HRD : Hid (Rd w (fromV A l.length c (l.length - l.length % 64)) (l.drop (l.length - l.length % 64))) := Lib.hid (fromV_rd ha hc hm _ (by omega))
  have HE : Hid (∀ w, Calls Tryd.prog 31 #[.int .i64 (l.length : Int)] w fun e w' => ∃ v, e = .returned v ∧ Own w.heap.size w' v (padB l.length) ∧ Nx w w') := Lib.hid fun w => ending_any l.length w (by omega)
  have HCC : Hid (∀ {B : Nat} (wr : World) (x : Value), CatAt x [l.drop (l.length - l.length % 64), padB l.length] wr → B ≤ wr.heap.size → Calls Tryd.prog 30 #[x] wr fun e w' => ∃ v, e = .returned v ∧ Own B w' v (l.drop (l.length - l.length % 64) ++ padB l.length) ∧ Nx wr w') := Lib.hid fun wr x h hB => by
    have := concat_at wr h (by simp) (by have := rest_length l; unfold gapN at this; simp only [List.flatten_cons, List.flatten_nil, List.append_nil]; omega) _ hB
    simpa only [List.flatten_cons, List.flatten_nil, List.append_nil] using this
  have HS1 := Lib.hid (fun w' => slice_to (P := Tryd.prog) 22 5 Tryd.underlying22 Tryd.sizeOf5 A l.length c (l.length - l.length % 64) ((l.length - l.length % 64 : Nat) : Int) rfl (by omega) w')
  have HS2 := Lib.hid (fun w' => slice_fromV (P := Tryd.prog) 22 5 Tryd.underlying22 Tryd.sizeOf5 A l.length c (l.length - l.length % 64) ((l.length - l.length % 64 : Nat) : Int) rfl (by omega) hc w')
  have hwh : (l.length : Int) - (l.length : Int) % 64 = ((l.length - l.length % 64 : Nat) : Int) := by omega
  have hni : (l.length : Int) ≤ 140737488355000 := by omega
  have HSL1 : Hid (∀ s : St, s.list.length = 8) := Lib.hid fun _ => rfl
  have HZZ : Hid ((List.replicate 32 (0 : UInt8)).length = 32) := Lib.hid List.length_replicate
  clear HKK HPARTS HREST HOK1 HOKS ha hk hn hm hc
  generalize shaL l = H at *
  generalize shaS l = S2 at *
  generalize beginS.rounds (l.take (l.length - l.length % 64)) (l.length / 64) = S1 at *
  generalize l.drop (l.length - l.length % 64) = LD at *
  generalize padB l.length = PB at *
  generalize hWH : l.length - l.length % 64 = wh at *
  generalize l.length = n at *
  generalize List.replicate 32 (0 : UInt8) = ZZ at *
  clear hWH l
  have hi1 : Hid ((Tryd.prog.info? 34).map (·.size) = some (ints .u32 S1.list).size) := Lib.hid (by rw [ints_size, HSL1.out]; exact hzs8)
  have ho1 : Hid ((ints .u32 [0, 0, 0, 0, 0, 0, 0, 0]).size = (ints .u32 S1.list).size) := Lib.hid (by rw [ints_size, ints_size, HSL1.out]; rfl)
  have hi2 : Hid ((Tryd.prog.info? 24).map (·.size) = some (hcel H).size) := Lib.hid (by rw [hcel_size, HHL.out]; exact hzs)
  have ho2 : Hid ((hcel ZZ).size = (hcel H).size) := Lib.hid (by rw [hcel_size, hcel_size, HHL.out, HZZ.out])
  replace hz8 := Lib.hid hz8
  go_enter Tryd.func9, Tryd.ntmps9
  go_wp2_with fail
  have HN0 : Hid (Nx w (w.alloc (.cells (hcel ZZ) 24))) := Lib.hid ((Nx.refl w).alloc _)
  have K00 := Row.new w (hcel ZZ) 24 _ rfl
  have HW0 : w.heap.size ≤ (w.alloc (.cells (hcel ZZ) 24)).heap.size := HN0.out.size
  have HK0 : w.heap.size < (w.alloc (.cells (hcel ZZ) 24)).heap.size := K00.lt
  generalize w.alloc (.cells (hcel ZZ) 24) = W at *
  replace hz := Lib.hid hz
  refine wp_region_inv [[], [], [], [1, 2], [0, 3, 0], [], [5, 4, 4, 0, 1, 2, 3, 4, 5]] (Sum1 ZZ A n c wh S1 w W undef) (by kernel_rfl) (by kernel_rfl) (hord_of (by decide)) ?_ ?_ ?_
  · exact ⟨_, _, _, _, _, _, rfl, HN0.out.drew, Nat.le_refl _, K00.drew, (fun h => by cases h), (fun h => by cases h), (fun h => by cases h), (fun h => by cases h), (fun h => by cases h), (fun h => by cases h), (fun h => by cases h)⟩
  · rintro L ac wr ⟨x0, x1, x2, x3, x4, x5, rfl, HN, HZ, K0, F0, F1, F2, F3, F4, F5, S6⟩ i hi hL hd K hK
    have hi' : i < 7 := hi
    have hcs : i = 0 ∨ i = 1 ∨ i = 2 ∨ i = 3 ∨ i = 4 ∨ i = 5 ∨ i = 6 := by omega
    clear hi hi'
    rcases hcs with rfl | rfl | rfl | rfl | rfl | rfl | rfl
    · refine wpOp_of rfl rfl (wp_call_of (some 11) rfl 23 #[] (by kernel_rfl) _ (begin_any wr) (fun w' hn => hK _ _ ?_))
      exact ⟨_, x1, x2, x3, x4, x5, rfl, HN.trans hn, Nat.le_trans HZ hn.size, K0.nx hn, (fun _ => rfl), F1, F2, F3, F4, (fun h => by obtain ⟨g, e, hg, r⟩ := F5 h; exact ⟨g, e, hg, r.nx hn⟩), S6⟩
    · refine wpOp_of rfl rfl (wp_val_of (some 12) rfl (.slice A n c) (by kernel_rfl) (hK _ _ ?_))
      exact ⟨x0, _, x2, x3, x4, x5, rfl, HN, HZ, K0, F0, (fun _ => rfl), F2, F3, F4, F5, S6⟩
    · refine wpOp_of rfl rfl (wp_val_of (some 13) rfl (.int .i64 (wh : Int)) (by kernel_rfl) (hK _ _ ?_))
      exact ⟨x0, x1, _, x3, x4, x5, rfl, HN, HZ, K0, F0, F1, (fun _ => rfl), F3, F4, F5, S6⟩
    · have e1 := F1 (hd 1 (by decide))
      subst e1
      have e2 := F2 (hd 2 (by decide))
      subst e2
      refine wpOp_of rfl rfl (wp_slice_of (some 14) rfl 22 ((.tmp 12)) none ((some (.tmp 13))) none rfl (.slice A wh c) (HS1.out wr) (hK _ _ ?_))
      exact ⟨x0, _, _, _, x4, x5, rfl, HN, HZ, K0, F0, F1, F2, (fun _ => rfl), F4, F5, S6⟩
    · have e0 := F0 (hd 0 (by decide))
      subst e0
      have e3 := F3 (hd 3 (by decide))
      subst e3
      refine wpOp_of rfl rfl (wp_call_of (some 15) rfl 28 #[.agg (ints .u32 beginS.list), .slice A wh c] (by kernel_rfl) _ (HR1.out wr HN) (fun w' hn => hK _ _ ?_))
      exact ⟨_, x1, x2, _, _, x5, rfl, HN.trans hn, Nat.le_trans HZ hn.size, K0.nx hn, F0, F1, F2, F3, (fun _ => rfl), (fun h => by obtain ⟨g, e, hg, r⟩ := F5 h; exact ⟨g, e, hg, r.nx hn⟩), S6⟩
    · have hs : L 6 = false := by
          rcases h : L 6 with _ | _
          · rfl
          · rw [S6 h] at hL; cases hL
      refine wpOp_of rfl rfl (wp_alloc_of (some 4) rfl 34 rfl ((ints .u32 [0, 0, 0, 0, 0, 0, 0, 0])) hz8.out (hK _ _ ?_))
      exact ⟨x0, x1, x2, x3, x4, _, rfl, HN.alloc _, Nat.le_trans HZ (by rw [alloc_size]; exact Nat.le_succ _), K0.alloc _, F0, F1, F2, F3, F4, (fun _ => ⟨_, rfl, HZ, by show Row _ _ (if L 6 = true then _ else _) _; rw [hs]; exact Row.new _ _ _ _ rfl⟩), (fun _ => rfl)⟩
    · have e4 := F4 (hd 4 (by decide))
      subst e4
      obtain ⟨ga, ea, hga, ra⟩ := F5 (hd 5 (by decide))
      subst ea
      rw [if_neg (by rw [hL]; decide)] at ra
      refine wpOp_of rfl rfl (wp_store_row 34 (.tmp 4) (.tmp 15) rfl ga ((ints .u32 S1.list)) rfl rfl 34 ((ints .u32 [0, 0, 0, 0, 0, 0, 0, 0])) ra hi1.out ho1.out (ints_one _ _) (hK _ _ ?_))
      exact ⟨x0, x1, x2, x3, _, _, rfl, HN.setRow _ (Nat.le_trans HW0 hga), (by rw [size_setRow]; exact HZ), K0.setRow_other _ (Nat.ne_of_lt (Nat.lt_of_lt_of_le HK0 hga)), F0, F1, F2, F3, F4, (fun _ => ⟨ga, rfl, hga, ra.setRow _⟩), (fun _ => hd 5 (by decide))⟩
  · rintro L ac wr ⟨x0, x1, x2, x3, x4, x5, rfl, HN, HZ, K0, F0, F1, F2, F3, F4, F5, S6⟩ hall
    have hall' : ∀ i, i < 7 → L i = true := hall
    have e0 := F0 (hall' 0 (by decide))
    have e1 := F1 (hall' 1 (by decide))
    have e2 := F2 (hall' 2 (by decide))
    have e3 := F3 (hall' 3 (by decide))
    have e4 := F4 (hall' 4 (by decide))
    obtain ⟨g5, e5, hg5, r5⟩ := F5 (hall' 5 (by decide))
    rw [if_pos (hall' 6 (by decide))] at r5
    subst e0 e1 e2 e3 e4 e5
    clear F0 F1 F2 F3 F4 F5 S6 hall hall'
    have HNA := Lib.hid HN
    have RA := r5
    have RZ := K0
    have hne : w.heap.size ≠ g5 := Nat.ne_of_lt (Nat.lt_of_lt_of_le HK0 hg5)
    clear HN K0 r5 HZ K00 HN0 HW0 HK0 hg5
    generalize hwr : wr = W2 at *
    clear hwr
    go_wp2_with fail
    have HN0 := HNA
    have K00 := RZ
    have K10 := RA
    have hg5 : g5 ≠ w.heap.size := Ne.symm hne
    refine wp_region_inv [[], [], [], [1, 2], [], [4], [5], [3, 6], [7, 6], [0, 8, 8], [9, 9], [10, 10, 0, 1, 2, 3, 4, 5, 6, 7, 8, 9, 10]] (Sum2 ZZ A n c wh g5 S1 S2 LD PB H w W2 undef) (by kernel_rfl) (by kernel_rfl) (hord_of (by decide)) ?_ ?_ ?_
    · exact ⟨_, _, _, _, _, _, _, _, _, _, _, rfl, HN0.out.drew, Nat.le_refl _, K00.drew, K10.drew, (fun h => by cases h), (fun h => by cases h), (fun h => by cases h), (fun h => by cases h), (fun h => by cases h), (fun h => by cases h), (fun h => by cases h), (fun h => by cases h), (fun h => by cases h), (fun h => by cases h), (fun h => by cases h), (fun h => by cases h), (fun h => by cases h), (fun h => by cases h), (fun h => by cases h)⟩
    · rintro L ac wr ⟨x0, x1, x2, x3, x4, x5, x6, x7, x8, x9, x10, rfl, HN, HZ, K0, K1, F0, F1, F2, F3, F4, F5, F6, F7, F8, F9, F10, T11_6, T11_7, T11_8, T11_9⟩ i hi hL hd K hK
      have hi' : i < 12 := hi
      have hcs : i = 0 ∨ i = 1 ∨ i = 2 ∨ i = 3 ∨ i = 4 ∨ i = 5 ∨ i = 6 ∨ i = 7 ∨ i = 8 ∨ i = 9 ∨ i = 10 ∨ i = 11 := by omega
      clear hi hi'
      rcases hcs with rfl | rfl | rfl | rfl | rfl | rfl | rfl | rfl | rfl | rfl | rfl | rfl
      · refine wpOp_of rfl rfl (wp_load_row 34 (.tmp 4) rfl g5 rfl 34 ((ints .u32 S1.list)) (0, 0) _ K1 Tryd.underlying34 rfl hi1.out (hK _ _ ?_))
        exact ⟨_, x1, x2, x3, x4, x5, x6, x7, x8, x9, x10, rfl, HN, HZ, K0, K1, (fun _ => rfl), F1, F2, F3, F4, F5, F6, F7, F8, F9, F10, T11_6, T11_7, T11_8, T11_9⟩
      · refine wpOp_of rfl rfl (wp_val_of (some 17) rfl (.slice A n c) (by kernel_rfl) (hK _ _ ?_))
        exact ⟨x0, _, x2, x3, x4, x5, x6, x7, x8, x9, x10, rfl, HN, HZ, K0, K1, F0, (fun _ => rfl), F2, F3, F4, F5, F6, F7, F8, F9, F10, T11_6, T11_7, T11_8, T11_9⟩
      · refine wpOp_of rfl rfl (wp_val_of (some 18) rfl (.int .i64 (wh : Int)) (by kernel_rfl) (hK _ _ ?_))
        exact ⟨x0, x1, _, x3, x4, x5, x6, x7, x8, x9, x10, rfl, HN, HZ, K0, K1, F0, F1, (fun _ => rfl), F3, F4, F5, F6, F7, F8, F9, F10, T11_6, T11_7, T11_8, T11_9⟩
      · have e1 := F1 (hd 1 (by decide))
        subst e1
        have e2 := F2 (hd 2 (by decide))
        subst e2
        refine wpOp_of rfl rfl (wp_slice_of (some 19) rfl 22 ((.tmp 17)) ((some (.tmp 18))) none none rfl (fromV A n c wh) (HS2.out wr) (hK _ _ ?_))
        exact ⟨x0, _, _, _, x4, x5, x6, x7, x8, x9, x10, rfl, HN, HZ, K0, K1, F0, F1, F2, (fun _ => rfl), F4, F5, F6, F7, F8, F9, F10, T11_6, T11_7, T11_8, T11_9⟩
      · refine wpOp_of rfl rfl (wp_val_of (some 20) rfl (.slice A n c) (by kernel_rfl) (hK _ _ ?_))
        exact ⟨x0, x1, x2, x3, _, x5, x6, x7, x8, x9, x10, rfl, HN, HZ, K0, K1, F0, F1, F2, F3, (fun _ => rfl), F5, F6, F7, F8, F9, F10, T11_6, T11_7, T11_8, T11_9⟩
      · have e4 := F4 (hd 4 (by decide))
        subst e4
        refine wpOp_of rfl rfl (wp_val_of (some 21) rfl (.int .i64 (n : Int)) (by kernel_rfl) (hK _ _ ?_))
        exact ⟨x0, x1, x2, x3, _, _, x6, x7, x8, x9, x10, rfl, HN, HZ, K0, K1, F0, F1, F2, F3, F4, (fun _ => rfl), F6, F7, F8, F9, F10, T11_6, T11_7, T11_8, T11_9⟩
      · have hs11 : L 11 = false := by
            rcases h : L 11 with _ | _
            · rfl
            · rw [T11_6 h] at hL; cases hL
        have e5 := F5 (hd 5 (by decide))
        subst e5
        refine wpOp_of rfl rfl (wp_callp_of (some 22) rfl 31 #[.int .i64 (n : Int)] (by kernel_rfl) (fun x w => Own W2.heap.size w x PB) (own_from HZ (HE.out wr)) (fun v w' hp hn => hK _ _ ?_))
        exact ⟨x0, x1, x2, x3, x4, _, _, x7, x8, x9, x10, rfl, HN.trans hn, Nat.le_trans HZ hn.size, K0.nx hn, K1.nx hn, F0, F1, F2, F3, F4, F5, (fun _ _ => hp), (fun h h11 => CatAt.nx (F7 h h11) hn), (fun h h11 => Own.nx (F8 h h11) hn), F9, F10, (fun _ => rfl), T11_7, T11_8, T11_9⟩
      · have hs11 : L 11 = false := by
            rcases h : L 11 with _ | _
            · rfl
            · rw [T11_7 h] at hL; cases hL
        have e3 := F3 (hd 3 (by decide))
        subst e3
        have p6 := F6 (hd 6 (by decide)) hs11
        refine wpOp_of rfl rfl (wp_mk_of (some 23) rfl 59 2 _ rfl (#[(0, fromV A n c wh), (1, x6)]) (by kernel_rfl) _ _ (run_mk2 (HRD.out.nx HN).sl p6.rd.sl wr) (hK _ _ ?_))
        have hp := catAt2 (HRD.out.nx HN) p6.rd
        exact ⟨x0, x1, x2, _, x4, x5, x6, _, x8, x9, x10, rfl, HN.alloc _, Nat.le_trans HZ (by rw [alloc_size]; exact Nat.le_succ _), K0.alloc _, K1.alloc _, F0, F1, F2, F3, F4, F5, (fun h h11 => Own.nx (F6 h h11) ((Nx.refl wr).alloc _)), (fun _ _ => hp), (fun h h11 => Own.nx (F8 h h11) ((Nx.refl wr).alloc _)), F9, F10, T11_6, (fun _ => rfl), T11_8, T11_9⟩
      · have hs11 : L 11 = false := by
            rcases h : L 11 with _ | _
            · rfl
            · rw [T11_8 h] at hL; cases hL
        have p7 := F7 (hd 7 (by decide)) hs11
        refine wpOp_of rfl rfl (wp_callp_of (some 24) rfl 30 #[_] (by kernel_rfl) (fun x w => Own W2.heap.size w x (LD ++ PB)) (HCC.out wr _ p7 HZ) (fun v w' hp hn => hK _ _ ?_))
        exact ⟨x0, x1, x2, x3, x4, x5, x6, x7, _, x9, x10, rfl, HN.trans hn, Nat.le_trans HZ hn.size, K0.nx hn, K1.nx hn, F0, F1, F2, F3, F4, F5, (fun h h11 => Own.nx (F6 h h11) hn), (fun h h11 => CatAt.nx (F7 h h11) hn), (fun _ _ => hp), F9, F10, T11_6, T11_7, (fun _ => rfl), T11_9⟩
      · have hs11 : L 11 = false := by
            rcases h : L 11 with _ | _
            · rfl
            · rw [T11_9 h] at hL; cases hL
        have e0 := F0 (hd 0 (by decide))
        subst e0
        have p8 := F8 (hd 8 (by decide)) hs11
        refine wpOp_of rfl rfl (wp_call_of (some 25) rfl 28 #[.agg (ints .u32 S1.list), _] (by kernel_rfl) _ (HR2.out wr _ HN p8.rd) (fun w' hn => hK _ _ ?_))
        exact ⟨_, x1, x2, x3, x4, x5, x6, x7, x8, _, x10, rfl, HN.trans hn, Nat.le_trans HZ hn.size, K0.nx hn, K1.nx hn, F0, F1, F2, F3, F4, F5, (fun h h11 => Own.nx (F6 h h11) hn), (fun h h11 => CatAt.nx (F7 h h11) hn), (fun h h11 => Own.nx (F8 h h11) hn), (fun _ => rfl), F10, T11_6, T11_7, T11_8, (fun _ => rfl)⟩
      · have e9 := F9 (hd 9 (by decide))
        subst e9
        refine wpOp_of rfl rfl (wp_call_of (some 26) rfl 29 #[.agg (ints .u32 S2.list)] (by kernel_rfl) _ (HT.out wr) (fun w' hn => hK _ _ ?_))
        exact ⟨x0, x1, x2, x3, x4, x5, x6, x7, x8, _, _, rfl, HN.trans hn, Nat.le_trans HZ hn.size, K0.nx hn, K1.nx hn, F0, F1, F2, F3, F4, F5, (fun h h11 => Own.nx (F6 h h11) hn), (fun h h11 => CatAt.nx (F7 h h11) hn), (fun h h11 => Own.nx (F8 h h11) hn), F9, (fun _ => rfl), T11_6, T11_7, T11_8, T11_9⟩
      · have e10 := F10 (hd 10 (by decide))
        subst e10
        rw [if_neg (by rw [hL]; decide)] at K0
        refine wpOp_of rfl rfl (wp_store_row 24 (.tmp 2) (.tmp 26) rfl w.heap.size (hcel H) rfl rfl 24 ((hcel ZZ)) K0 hi2.out ho2.out (hcel_one _) (hK _ _ ?_))
        exact ⟨x0, x1, x2, x3, x4, x5, x6, x7, x8, x9, _, rfl, HN.setRow _ (Nat.le_refl _), (by rw [size_setRow]; exact HZ), K0.setRow _, K1.setRow_other _ hg5, F0, F1, F2, F3, F4, F5, (fun _ hc => by cases hc), (fun _ hc => by cases hc), (fun _ hc => by cases hc), F9, F10, (fun _ => hd 6 (by decide)), (fun _ => hd 7 (by decide)), (fun _ => hd 8 (by decide)), (fun _ => hd 9 (by decide))⟩
    · rintro L ac wr ⟨x0, x1, x2, x3, x4, x5, x6, x7, x8, x9, x10, rfl, HN, HZ, K0, K1, F0, F1, F2, F3, F4, F5, F6, F7, F8, F9, F10, T11_6, T11_7, T11_8, T11_9⟩ hall
      have hall' : ∀ i, i < 12 → L i = true := hall
      have e0 := F0 (hall' 0 (by decide))
      have e1 := F1 (hall' 1 (by decide))
      have e2 := F2 (hall' 2 (by decide))
      have e3 := F3 (hall' 3 (by decide))
      have e4 := F4 (hall' 4 (by decide))
      have e5 := F5 (hall' 5 (by decide))
      have e9 := F9 (hall' 9 (by decide))
      have e10 := F10 (hall' 10 (by decide))
      rw [if_pos (hall' 11 (by decide))] at K0
      subst e0 e1 e2 e3 e4 e5 e9 e10
      clear F0 F1 F2 F3 F4 F5 F6 F7 F8 F9 F10 T11_6 T11_7 T11_8 T11_9 hall hall'
      go_wp2_with fail
      exact bodyPost_ret (results_cell_row Tryd.results9 _ _ w.heap.size 24 (hcel H) (0, 0) _ rfl K0 Tryd.underlying24 rfl hi2.out) rfl ⟨rfl, HN⟩
end Go.Proofs.YtpgdfboogjapeaaDoor
