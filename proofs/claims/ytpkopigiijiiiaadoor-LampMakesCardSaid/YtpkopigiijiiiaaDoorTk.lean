/- TEXTS OF OUR OWN, IN ONE FILE. -/
import Derived.Test.YtpkopigiijiiiaaDoorTj
import Derived.Test.YtpkopigiijiiiaaDoorTb
import Derived.Deep.CutRange
import Derived.Deep.DeepCutAuto
section
namespace Go.Proofs.YtpkopigiijiiiaaDoor
open Go.RowKit
set_option linter.unusedVariables false
set_option linter.unusedSimpArgs false

/-- So many of a number's bytes, the lowest last. -/
def beR (n : Nat) : Nat → List UInt8
  | 0 => []
  | i + 1 => UInt8.ofNat (n / 256 ^ i) :: beR n i
theorem beR_length (n : Nat) : ∀ i, (beR n i).length = i
  | 0 => rfl
  | i + 1 => by rw [beR, List.length_cons, beR_length n i]
/-- A row, so many of a number's bytes laid up to the place. -/
def hPutL (L : List UInt8) (z n i : Nat) : List UInt8 := L.take (z - i) ++ beR n i ++ L.drop z
theorem putL_length (L : List UInt8) (z n i : Nat) (hi : i ≤ z) (hz : z ≤ L.length) : (hPutL L z n i).length = L.length := by
  simp [hPutL, beR_length]; omega
theorem putL_zero (L : List UInt8) (z n : Nat) : hPutL L z n 0 = L := by simp [hPutL, beR]
theorem putL_set (L : List UInt8) (z n i : Nat) (hi : i < z) (hz : z ≤ L.length) : (hPutL L z n i).set (z - 1 - i) (UInt8.ofNat (n / 256 ^ i)) = hPutL L z n (i + 1) := by
  unfold hPutL
  have h1 : z - i = (z - 1 - i) + 1 := by omega
  have h2 : z - (i + 1) = z - 1 - i := by omega
  rw [h1, h2, List.take_succ_eq_append_getElem (by omega), List.append_assoc, List.append_assoc]
  have := List.set_append_right (z - 1 - i) (UInt8.ofNat (n / 256 ^ i)) (s := L.take (z - 1 - i)) (t := [L[z - 1 - i]'(by omega)] ++ (beR n i ++ L.drop z)) (by rw [List.length_take]; omega)
  rw [this, show z - 1 - i - (L.take (z - 1 - i)).length = 0 by rw [List.length_take]; omega]
  simp [beR]
/-- Of all the blocks just one has turned. -/
def Only (g : Nat) (w w' : World) : Prop := w'.os = w.os ∧ w'.tape = w.tape ∧ w'.output = w.output ∧ w'.heap.size = w.heap.size ∧ ∀ k, k ≠ g → w'.heap[k]? = w.heap[k]?
theorem Only.refl (g : Nat) (w : World) : Only g w w := ⟨rfl, rfl, rfl, rfl, fun _ _ => rfl⟩
theorem Only.trans {g : Nat} {a b c : World} (h : Only g a b) (k : Only g b c) : Only g a c := by
  obtain ⟨h1, h2, h3, h4, h5⟩ := h
  obtain ⟨k1, k2, k3, k4, k5⟩ := k
  exact ⟨k1.trans h1, k2.trans h2, k3.trans h3, k4.trans h4, fun j hj => (k5 j hj).trans (h5 j hj)⟩
theorem Only.set (g i : Nat) (v : Value) (w : World) : Only g w (w.setCell ⟨g, i, none⟩ v) :=
  ⟨rfl, rfl, rfl, by simp [World.setCell], fun k hk => heap_setCell_other w ⟨g, i, none⟩ k v hk⟩
theorem Only.drewN {g : Nat} {a b : World} (h : Only g a b) (n : Nat) : Only g a (b.drewN n) := h
theorem Nx.only {a b c : World} {g : Nat} (h : Nx a b) (k : Only g b c) (hg : a.heap.size ≤ g) : Nx a c :=
  ⟨k.1.trans h.os, k.2.1.trans h.tape, k.2.2.1.trans h.output, by rw [k.2.2.2.1]; exact h.size, fun j hj => (k.2.2.2.2 j (by omega)).trans (h.block j hj)⟩
/-- The first k words' bytes, and zeros. -/
def hashP (S : List Int) (k : Nat) : List UInt8 := ((S.take k).flatMap fun x => beR x.toNat 4) ++ List.replicate (32 - 4 * k) 0
def hashL (s : St) : List UInt8 := s.list.flatMap fun x => beR x.toNat 4
theorem flat4_length (S : List Int) : (S.flatMap fun x => beR x.toNat 4).length = 4 * S.length := by
  induction S with
  | nil => rfl
  | cons x S ih => rw [List.flatMap_cons, List.length_append, ih, beR_length, List.length_cons]; omega
theorem hashP_length (S : List Int) (k : Nat) (hk : k ≤ 8) (h : S.length = 8) : (hashP S k).length = 32 := by
  unfold hashP
  rw [List.length_append, flat4_length, List.length_take, List.length_replicate]; omega
theorem hashP_zero (S : List Int) : hashP S 0 = List.replicate 32 0 := by simp [hashP]
theorem hashP_all (s : St) : hashP s.list 8 = hashL s := by
  unfold hashP hashL
  rw [List.take_of_length_le (by rw [St.list_length]; omega)]
  simp
theorem hashP_next (S : List Int) (k : Nat) (hk : k < 8) (h : S.length = 8) : hPutL (hashP S k) (4 * k + 4) (S.getD k 0).toNat 4 = hashP S (k + 1) := by
  have hl : ((S.take k).flatMap fun x => beR x.toNat 4).length = 4 * k := by rw [flat4_length, List.length_take]; omega
  have hx : S.getD k 0 = S[k]'(by omega) := by rw [List.getD_eq_getElem?_getD, List.getElem?_eq_getElem (by omega)]; rfl
  unfold hPutL hashP
  rw [hx, List.take_succ_eq_append_getElem (by omega), List.flatMap_append]
  rw [Nat.add_sub_cancel, List.take_append_of_le_length (by omega), List.take_of_length_le (by omega)]
  rw [List.drop_append, List.drop_of_length_le (by omega), hl, List.nil_append, List.drop_replicate]
  rw [show 32 - 4 * k - (4 * k + 4 - 4 * k) = 32 - 4 * (k + 1) by omega]
  simp
theorem hashL_length (s : St) : (hashL s).length = 32 := by
  unfold hashL
  rw [flat4_length]; rfl
/-- How many zeros pad n bytes. -/
def gapN (n : Nat) : Nat := (64 - (n + 1 + 8) % 64) % 64
/-- What pads n bytes. -/
def padB (n : Nat) : List UInt8 := 128 :: (List.replicate (gapN n) 0 ++ beR (8 * n) 8)
theorem padB_length (n : Nat) : (padB n).length = 1 + gapN n + 8 := by
  simp [padB, beR_length]; omega
theorem pad_whole (n : Nat) : (n + (1 + gapN n + 8)) % 64 = 0 := by unfold gapN; omega
theorem padB_put (n : Nat) : hPutL ((List.replicate (1 + gapN n + 8) (0 : UInt8)).set 0 128) (1 + gapN n + 8) (8 * n) 8 = padB n := by
  unfold hPutL padB
  rw [show 1 + gapN n + 8 - 8 = gapN n + 1 by omega, show 1 + gapN n + 8 = (gapN n + 8) + 1 by omega, List.replicate_succ, List.set_cons_zero, List.take_succ_cons, List.take_replicate]
  rw [List.drop_of_length_le (by simp)]
  simp
theorem rounds_append (s : St) (p q : List UInt8) (a : Nat) (h : p.length = 64 * a) : ∀ b, s.rounds (p ++ q) (a + b) = (s.rounds p a).rounds q b
  | 0 => by
    rw [Nat.add_zero]
    show _ = s.rounds p a
    have : ∀ k, k ≤ a → s.rounds (p ++ q) k = s.rounds p k := by
      intro k
      induction k with
      | zero => intro _; rfl
      | succ k ih =>
        intro hk
        show (s.rounds (p ++ q) k).round _ = (s.rounds p k).round _
        rw [ih (by omega), List.drop_append_of_le_length (by omega), List.take_append_of_le_length (by rw [List.length_drop]; omega)]
    exact this a (Nat.le_refl _)
  | b + 1 => by
    have e0 : s.rounds (p ++ q) (a + (b + 1)) = (s.rounds (p ++ q) (a + b)).round (((p ++ q).drop (64 * (a + b))).take 64) := rfl
    have e1 : (s.rounds p a).rounds q (b + 1) = ((s.rounds p a).rounds q b).round ((q.drop (64 * b)).take 64) := rfl
    rw [e0, e1, rounds_append s p q a h b, List.drop_append, List.drop_of_length_le (by omega), List.nil_append, show 64 * (a + b) - p.length = 64 * b by omega]
/-- What the padded bytes are. -/
def padL (l : List UInt8) : List UInt8 := l ++ padB l.length
theorem padL_length (l : List UInt8) : (padL l).length = l.length + (1 + gapN l.length + 8) := by rw [padL, List.length_append, padB_length]
theorem padL_whole (l : List UInt8) : 64 * ((padL l).length / 64) = (padL l).length := by
  have := pad_whole l.length
  rw [← padL_length] at this
  omega
/-- The words behind all rounds. -/
def shaS (l : List UInt8) : St := beginS.rounds (padL l) ((padL l).length / 64)
/-- The hash. -/
def shaL (l : List UInt8) : List UInt8 := hashL (shaS l)
theorem shaL_length (l : List UInt8) : (shaL l).length = 32 := hashL_length _
theorem shaS_parts (l : List UInt8) : shaS l = (beginS.rounds (l.take (l.length - l.length % 64)) (l.length / 64)).rounds (l.drop (l.length - l.length % 64) ++ padB l.length) ((l.length % 64 + (1 + gapN l.length + 8)) / 64) := by
  have h1 : (l.take (l.length - l.length % 64)).length = 64 * (l.length / 64) := by rw [List.length_take]; omega
  rw [← rounds_append _ _ _ _ h1, ← List.append_assoc, List.take_append_drop]
  unfold shaS
  rw [padL_length]
  have e : (l.length + (1 + gapN l.length + 8)) / 64 = l.length / 64 + (l.length % 64 + (1 + gapN l.length + 8)) / 64 := by omega
  rw [e]
  rfl
theorem rest_length (l : List UInt8) : (l.drop (l.length - l.length % 64) ++ padB l.length).length = 64 * ((l.length % 64 + (1 + gapN l.length + 8)) / 64) := by
  rw [List.length_append, List.length_drop, padB_length]
  have := pad_whole l.length
  omega
theorem sumL_all' (s m : St) : sumL m.list s.list 8 = (s.add m).list := by
  show [(m.a + s.a) % 4294967296, (m.b + s.b) % 4294967296, (m.c + s.c) % 4294967296, (m.d + s.d) % 4294967296, (m.e + s.e) % 4294967296, (m.f + s.f) % 4294967296, (m.g + s.g) % 4294967296, (m.h + s.h) % 4294967296] = [(s.a + m.a) % 4294967296, (s.b + m.b) % 4294967296, (s.c + m.c) % 4294967296, (s.d + m.d) % 4294967296, (s.e + m.e) % 4294967296, (s.f + m.f) % 4294967296, (s.g + m.g) % 4294967296, (s.h + m.h) % 4294967296]
  simp only [Int.add_comm]
end Go.Proofs.YtpkopigiijiiiaaDoor
end

section
namespace Go.Proofs.YtpkopigiijiiiaaDoor
open Go.RowKit
set_option linter.unusedVariables false
set_option linter.unusedSimpArgs false
set_option maxRecDepth 20000

theorem Row.only {w w' : World} {h g : Nat} {cs : Array Value} {t : TypeId} (r : Row w h cs t) (k : Only g w w') (hg : h ≠ g) : Row w' h cs t := by
  unfold Row
  rw [k.2.2.2.2 h hg]; exact r
theorem u8_shr' (n p k : Nat) (hp : p = 8 * k) : (n : Int) / 2 ^ p % 256 = ((UInt8.ofNat (n / 256 ^ k)).toNat : Int) := by
  subst hp
  have e2 : (2 : Nat) ^ (8 * k) = 256 ^ k := by rw [Nat.pow_mul]
  have e3 : ((n : Int) / 2 ^ (8 * k)) = ((n / 256 ^ k : Nat) : Int) := by
    rw [← e2]; simp
  rw [e3, UInt8.toNat_ofNat']
  omega

set_option maxHeartbeats 1000000 in
theorem putHigh_any (g o m c : Nat) (L : List UInt8) (T : TypeId) (n : Nat) (w : World) (hr : Row w g (hcel L) T) (hm : m ≤ 8) (hmc : m ≤ c) (hc : c ≤ 1000) (ho : o + m ≤ L.length) (hn : n < 18446744073709551616) :
    Calls Tryd.prog 43 #[.slice (some ⟨g, o, none⟩) m c, .int .u64 (n : Int)] w fun e w' => e = .returned (.tuple #[]) ∧ Only g w w' ∧ Row w' g (hcel (hPutL L (o + m) n m)) T := by
  have hni : (n : Int) < 18446744073709551616 := by omega
  have HO := Lib.hid ho
  clear ho hn
  replace hr := Lib.hid hr
  go_enter Tryd.func43, Tryd.ntmps43
  go_wp2
  go_loopw [7] (fun i wr => ∃ k : Nat, k ≤ m ∧ i = .int .i64 k ∧ Hid (Only g w wr) ∧ Row wr g (hcel (hPutL L (o + m) n k)) T) (fun i _ => m - (intOf i).toNat)
  case atStart => exact ⟨0, by omega, rfl, Only.refl _ _, by rw [putL_zero]; exact hr.out⟩
  case round =>
    obtain ⟨k, hk, rfl, HN, R⟩ := hrel
    by_cases hlt : k < m
    · have hlti : (k : Int) < (m : Int) := by omega
      have HL := Lib.hid (putL_length L (o + m) n k (by omega) HO.out)
      have HS := Lib.hid (putL_set L (o + m) n k (by omega) HO.out)
      obtain ⟨q, hq⟩ : ∃ q : Nat, (m : Int) - 1 - (k : Int) = (q : Int) := ⟨m - 1 - k, by omega⟩
      obtain ⟨p, hp⟩ : ∃ p : Nat, 8 * (k : Int) = (p : Int) := ⟨8 * k, by omega⟩
      have hp64 : (p : Int) < 64 := by omega
      have hz : o + m - 1 - k = o + q := by omega
      rw [hz] at HS
      have hql : o + q < (hPutL L (o + m) n k).length := by rw [HL.out]; have := HO.out; omega
      have c1 : wr.cell? ⟨g, o + q, none⟩ = some (bv (hPutL L (o + m) n k)[o + q]) := R.cell (hcel_get _ _ hql)
      have f1 := R.frozen
      have HB := Lib.hid (u8_shr' n p k (by omega))
      have HX := Lib.hid (hcel_set (hPutL L (o + m) n k) (o + q) (UInt8.ofNat (n / 256 ^ k)) hql)
      generalize (hPutL L (o + m) n k)[o + q] = y at *
      clear hz hql HL
      have hqm : (q : Int) < (m : Int) := by omega
      go_wp2
      go_roundw
      case rel =>
        refine ⟨k + 1, by omega, by go_num, HN.out.trans (Only.set _ _ _ _), ?_⟩
        rw [← HS.out, ← HX.out, HB.out]
        exact R.set _ _
      case measure => simp [intOf]; omega
    · obtain rfl : k = m := by omega
      go_wp2
      go_end0
      exact ⟨rfl, HN.out, R⟩

theorem info_hash' : (Tryd.prog.info? 23).map (fun i => (i.zero, i.size)) = some (some (.agg (hcel (List.replicate 32 0))), 32) := by kernel_rfl
theorem hcel_size' (l : List UInt8) (n : Nat) (h : l.length = n) : (hcel l).size = n := by rw [hcel_size, h]

set_option maxHeartbeats 1000000 in
theorem htold_any (s : St) (w : World) (hs : s.ok) :
    Calls Tryd.prog 36 #[.agg (ints .u32 s.list)] w fun e w' => e = .returned (.agg (hcel (hashL s))) ∧ Nx w w' := by
  obtain ⟨hz, hzs⟩ := zero_of_info info_hash'
  have HALL : Hid (hashP s.list 8 = hashL s) := Lib.hid (hashP_all s)
  have HHL := Lib.hid (hashL_length s)
  have HWD := Lib.hid (St.list_wd hs)
  have HSL : Hid (s.list.length = 8) := Lib.hid rfl
  clear hs
  generalize hashL s = H at *
  generalize s.list = S at *
  have hsw : (Tryd.prog.info? 55).map (·.size) = some (ints .u32 S).size := by rw [ints_size, HSL.out]; kernel_rfl
  replace hsw := Lib.hid hsw
  have HX := Lib.hid (fun i (hi : i < S.length) w => run_index_ints (P := Tryd.prog) .u32 55 54 8 Tryd.underlying55 Tryd.isAgg54 Tryd.sizeOf54 S HSL.out i hi w)
  have HZL : Hid ((List.replicate 32 (0 : UInt8)).length = 32) := Lib.hid List.length_replicate
  have HZ0 : Hid (hashP S 0 = List.replicate 32 0) := Lib.hid (hashP_zero S)
  have HPL := Lib.hid (fun k hk => hashP_length S k hk HSL.out)
  have HPN := Lib.hid (fun k hk => hashP_next S k hk HSL.out)
  generalize List.replicate 32 (0 : UInt8) = Z at *
  go_enter Tryd.func36, Tryd.ntmps36
  go_wp2_with (refine wpList_load_row rfl 55 (.tmp 1) rfl w.heap.size rfl 55 (ints .u32 S) (0, 0) _ (((Row.new w (ints .u32 S) 55 _ rfl).alloc _).alloc _) Tryd.underlying55 rfl hsw.out ?_)
  replace hz := Lib.hid hz
  replace hzs := Lib.hid hzs
  go_loopw [7] (fun i wr => ∃ k : Nat, k ≤ 8 ∧ i = .int .i64 k ∧ Hid (Nx w wr) ∧ Row wr (w.heap.size + 1) (hcel Z) 23 ∧ Row wr (w.heap.size + 1 + 1) (hcel (hashP S k)) 23) (fun i _ => 8 - (intOf i).toNat)
  case atStart =>
    refine ⟨0, by omega, rfl, (((Nx.refl w).alloc _).alloc _).alloc _, (Row.new2 _ _ _ _).alloc _, ?_⟩
    rw [HZ0.out]
    exact Row.new3 _ _ _ _ _
  case round =>
    obtain ⟨k, hk, rfl, HN, R1, R2⟩ := hrel
    by_cases hlt : k < 8
    · have hkl : k < S.length := by rw [HSL.out]; exact hlt
      have hidx := HX.out k hkl
      have HL := Lib.hid (HPL.out k hk)
      have HE := HPN.out k hlt
      have hwd := HWD.out k
      have hge : S.getD k 0 = S[k] := by rw [List.getD_eq_getElem?_getD, List.getElem?_eq_getElem hkl]; rfl
      rw [hge] at hwd HE
      replace HE := Lib.hid HE
      generalize S[k] = x at *
      obtain ⟨x0, x1⟩ := hwd
      obtain ⟨n, rfl⟩ := Int.eq_ofNat_of_zero_le x0
      have hwx : IntKind.u64.wrap (n : Int) = (n : Int) := by rw [IntKind.wrap_u64]; omega
      have HPU := Lib.hid (fun w' r => putHigh_any (w.heap.size + 1 + 1) (4 * k) 4 (32 - 4 * k) (hashP S k) 23 n w' r (by omega) (by omega) (by omega) (by rw [HL.out]; omega) (by omega))
      have hsl := fun w' => slice_arr (P := Tryd.prog) 23 5 32 Tryd.underlying23 Tryd.sizeOf5 (w.heap.size + 1 + 1) (4 * k) (4 * k + 4) ((k : Int) * 4) (((k : Int) + 1) * 4) (by omega) (by omega) (by omega) (by omega) (by omega) w'
      rw [show 4 * k + 4 - 4 * k = 4 by omega] at hsl
      clear HX hkl hge HPL HPN HWD HSL HZ0 x0 x1
      go_wp2_with fail
      refine (HPU.out _ R2).mono ?_
      rintro e w1 ⟨rfl, ho, R3⟩
      go_wp2
      go_roundw
      case rel =>
        refine ⟨k + 1, by omega, by go_num, HN.out.only ho (by omega), R1.only ho (by omega), ?_⟩
        rw [← HE.out]
        exact R3
      case measure => simp [intOf]; omega
    · obtain rfl : k = 8 := by omega
      rw [HALL.out] at R2
      have hz1 : (Tryd.prog.info? 23).map (·.size) = some (hcel H).size := by rw [hcel_size, HHL.out]; exact hzs.out
      replace hz1 := Lib.hid hz1
      have ho : (hcel Z).size = (hcel H).size := by rw [hcel_size, hcel_size, HHL.out, HZL.out]
      replace ho := Lib.hid ho
      have hl : w.heap.size ≤ w.heap.size + 1 := by omega
      clear HX HPL HPN HWD HSL
      go_wp2_with (first | (refine wpList_load_row rfl 23 (.tmp 3) rfl (w.heap.size + 1 + 1) rfl 23 (hcel H) (0, 0) _ R2 Tryd.underlying23 rfl hz1.out ?_) | (refine wpList_store_row rfl 23 (.tmp 2) (.tmp 21) rfl (w.heap.size + 1) (hcel H) rfl rfl 23 (hcel Z) R1 hz1.out ho.out (hcel_one _) ?_))
      exact bodyPost_ret (results_cell_row Tryd.results36 _ _ (w.heap.size + 1) 23 (hcel H) (0, 0) _ rfl (R1.setRow _) Tryd.underlying23 rfl hz1.out) rfl ⟨rfl, HN.out.setRow _ hl⟩

theorem info_u8s : (Tryd.prog.info? 5).map (fun i => (i.zero, i.size, i.bytes)) = some (some (.int .u8 0), 1, 1) := by kernel_rfl

set_option maxHeartbeats 1000000 in
theorem ending_any (n : Nat) (w : World) (hn : n ≤ 140737488355328) :
    Calls Tryd.prog 37 #[.int .i64 (n : Int)] w fun e w' => ∃ v, e = .returned v ∧ Own w.heap.size w' v (padB n) ∧ Nx w w' := by
  have hmk := run_mk (P := Tryd.prog) 28 Tryd.underlying28 info_u8s .i64 .i64 (1 + gapN n + 8) (by unfold gapN; omega)
  rw [show ((1 + gapN n + 8 : Nat) : Int) = 1 + (gapN n : Int) + 8 by omega] at hmk
  have hg : (64 - ((n : Int) + 1 + 8) % 64) % 64 = (gapN n : Int) := by unfold gapN; omega
  have HGL : Hid (gapN n < 64) := Lib.hid (by unfold gapN; omega)
  have HPB := Lib.hid (padB_put n)
  have HPL := Lib.hid (padB_length n)
  have hni : (n : Int) ≤ 140737488355328 := by omega
  have hw8 : IntKind.u64.wrap (n : Int) = (n : Int) := by rw [IntKind.wrap_u64]; omega
  have hw9 : 8 * (n : Int) = ((8 * n : Nat) : Int) := by omega
  have hw10 : IntKind.u64.wrap ((8 * n : Nat) : Int) = ((8 * n : Nat) : Int) := by rw [IntKind.wrap_u64]; omega
  have H8 : Hid (8 * n < 18446744073709551616) := Lib.hid (by omega)
  generalize padB n = PB at *
  generalize gapN n = z at *
  generalize 8 * n = n8 at *
  have hz63 : (z : Int) ≤ 63 := by have := HGL.out; omega
  go_enter Tryd.func37, Tryd.ntmps37
  have HZ : Hid ((zer (1 + z + 8)).setIfInBounds 0 (.int .u8 128) = hcel ((List.replicate (1 + z + 8) 0).set 0 128)) := Lib.hid (hcel_set (List.replicate (1 + z + 8) 0) 0 128 (by simp))
  have HLL : Hid (((List.replicate (1 + z + 8) (0 : UInt8)).set 0 128).length = 1 + z + 8) := Lib.hid (by simp)
  go_wp2_with fail
  rw [HZ.out]
  refine (putHigh_any w.heap.size (1 + z) 8 8 _ 5 n8 _ (Row.new _ _ _ _ rfl) (by omega) (by omega) (by omega) (by rw [HLL.out]; omega) H8.out).mono ?_
  rintro e w1 ⟨rfl, ho, R3⟩
  rw [HPB.out] at R3
  have HN : Hid (Nx w w1) := Lib.hid (((Nx.refl w).alloc _).only ho (Nat.le_refl _))
  replace R3 := Lib.hid R3
  clear ho
  go_wp2
  go_ret
  refine ⟨_, rfl, .inr ⟨w.heap.size, PB, ?_, Nat.le_refl _, R3.out, Nat.le_refl _, ?_, List.take_of_length_le (Nat.le_refl _)⟩, HN.out⟩
  · rw [HPL.out]; rfl
  · rw [HPL.out]; simp only [maxLen]; omega
end Go.Proofs.YtpkopigiijiiiaaDoor
end

section
namespace Go.Proofs.YtpkopigiijiiiaaDoor
open Go.RowKit
set_option linter.unusedVariables false
set_option linter.unusedSimpArgs false

section
variable {P : Program}
/-- A cut of a slice up to its end, short of its capacity. -/
theorem slice_from (t e : TypeId) (ht : P.underlying t = some (.slice e)) (hsz : ∀ w, (sizeOf e).run P w = .ok 1 w) (b o len c lo : Nat) (zl : Int) (hl : zl = lo) (h1 : lo ≤ len) (h2 : lo < c) (w : World) :
    (Instr.sliceAt t (.slice (some ⟨b, o, none⟩) len c) (some (.int .i64 zl)) none none).run P w = .ok (.slice (some ⟨b, o + lo, none⟩) (len - lo) (c - lo)) w := by
  subst hl
  have e1 : ¬ (c = lo) := by omega
  have e2 : (lo : Int) ≤ (len : Int) := by omega
  simp [Instr.sliceAt, Instr.slice, Instr.sureAddr, run_underlying ht, Instr.sliceBounds, run_sliceBound, hsz, e1, e2, h1, addr_add]
end

set_option maxRecDepth 100000 in
set_option maxHeartbeats 1000000 in
theorem rounds_any (s : St) (l : List UInt8) (N : Nat) (vb : Value) (w : World) (hs : s.ok) (hk : KIs w) (hr : Rd w vb l) (hl : l.length = 64 * N) (hn : l.length ≤ 140737488355328) :
    Calls Tryd.prog 34 #[.agg (ints .u32 s.list), vb] w fun e w' => e = .returned (.agg (ints .u32 (s.rounds l N).list)) ∧ Nx w w' := by
  obtain ⟨hz, hzs⟩ := zero_of_info info_w8
  obtain ⟨hzb, hzbs⟩ := zero_of_info info_b64
  have HK := Lib.hid hk
  have HOK := Lib.hid (fun n => St.ok.rounds hs l n)
  have HSL : Hid (s.list.length = 8) := Lib.hid rfl
  have HST : Hid (∀ k, s.rounds l (k + 1) = (s.rounds l k).round ((l.drop (64 * k)).take 64)) := Lib.hid fun _ => rfl
  have HS0 : Hid (s.rounds l 0 = s) := Lib.hid rfl
  obtain ⟨A, c, rfl, hc, hm, ha⟩ := hr
  have HA := Lib.hid ha
  have HZL : Hid ((List.replicate 64 (0 : UInt8)).length = 64) := Lib.hid List.length_replicate
  generalize List.replicate 64 (0 : UInt8) = Z at *
  clear hs hk ha
  unfold maxLen at hm
  go_enter Tryd.func34, Tryd.ntmps34
  go_wp2
  replace hz := Lib.hid hz
  replace hzs := Lib.hid hzs
  replace hzb := Lib.hid hzb
  replace hzbs := Lib.hid hzbs
  have HL := Lib.hid hl
  clear hl
  go_loopw [6] (fun i wr => ∃ k : Nat, k ≤ N ∧ i = .int .i64 ((64 * k : Nat) : Int) ∧ Hid (Nx w wr) ∧ Row wr w.heap.size (ints .u32 (s.rounds l k).list) 55 ∧ Row wr (w.heap.size + 1) (ints .u32 [0, 0, 0, 0, 0, 0, 0, 0]) 55 ∧ ∃ B : List UInt8, Hid (B.length = 64) ∧ Row wr (w.heap.size + 1 + 1) (hcel B) 67) (fun i _ => 64 * N - (intOf i).toNat)
  case atStart =>
    refine ⟨0, by omega, rfl, (((Nx.refl w).alloc _).alloc _).alloc _, ?_, (Row.new2 _ _ _ _).alloc _, Z, HZL, Row.new3 _ _ _ _ _⟩
    rw [HS0.out]
    exact ((Row.new _ _ _ _ rfl).alloc _).alloc _
  case round =>
    obtain ⟨k, hk, rfl, HN, R0, R1, B, HB, R2⟩ := hrel
    by_cases hlt : k < N
    · have hlk : 64 * k + 64 ≤ l.length := by have := HL.out; omega
      obtain ⟨b, o, rfl, hb, hcell⟩ := HA.out (by omega)
      have hsl1 := fun w' => slice_arr_all (P := Tryd.prog) 67 5 64 Tryd.underlying67 Tryd.sizeOf5 (w.heap.size + 1 + 1) (by omega) w'
      have hsl2 := fun w' => slice_from (P := Tryd.prog) 28 5 Tryd.underlying28 Tryd.sizeOf5 b o l.length c (64 * k) ((64 * k : Nat) : Int) rfl (by omega) (by omega) w'
      have hlt2 : ((64 * k : Nat) : Int) < (l.length : Int) := by omega
      have HC : Hid (∀ j v, (bvs ((l.drop (64 * k)).take 64))[j]? = some v → wr.cell? ((⟨b, o + 64 * k, none⟩ : Addr).add j) = some v) := Lib.hid fun j v hv => by
        obtain ⟨hj, rfl⟩ := bvs_get hv
        have hj2 : j < 64 := by simp at hj; omega
        have := hcell (64 * k + j) (by omega)
        rw [← Nat.add_assoc] at this
        rw [addr_add, HN.out.cell (p := ⟨b, o + 64 * k + j, none⟩) hb, this]
        simp
      have HPL : Hid (((l.drop (64 * k)).take 64).length = 64) := Lib.hid (by simp; omega)
      have HSK := Lib.hid (HST.out k)
      have HO := Lib.hid (HOK.out k)
      have HLK := Lib.hid hlk
      clear hcell hb HA HST HOK hlk
      generalize s.rounds l k = t at *
      generalize (l.drop (64 * k)).take 64 = PT at *
      generalize hat : 64 * k = at_ at *
      replace hat := Lib.hid hat
      generalize l.length = len at *
      go_wp2
      go_still_tail 4, (by kernel_rfl)
      change wpList _ _ _ _ _ wr.drew
      have hu8 : (Tryd.prog.info? 5).map (·.size) = some 1 := by kernel_rfl
      have HMIN : Hid ((bvs PT).length = Nat.min (len - at_) 64) := Lib.hid (by
        rw [bvs_length, HPL.out]
        have := HLK.out
        exact (Nat.min_eq_right (by omega)).symm)
      have HFIT : Hid (0 + (bvs PT).length ≤ (hcel B).size) := Lib.hid (by rw [bvs_length, HPL.out, hcel_size, HB.out]; decide)
      have HEQ : Hid (((hcel B).toList.take 0 ++ (bvs PT ++ (hcel B).toList.drop (0 + (bvs PT).length))).toArray = hcel PT) := Lib.hid (by
        rw [List.drop_of_length_le (by rw [Array.length_toList, hcel_size, HB.out, bvs_length, HPL.out]; decide)]
        simp [hcel])
      have R2' : Row wr.drew (w.heap.size + 1 + 1) (hcel B) 67 := R2
      refine wpList_copy_own rfl (.tmp 13) (.tmp 16) _ _ rfl 5 Tryd.underlying28 hu8 (w.heap.size + 1 + 1) 0 64 64 ⟨b, o + at_, none⟩ (len - at_) (c - at_) rfl rfl (hcel B) 67 R2' (bvs PT) HMIN.out HC.out HFIT.out (bvs_one _) ?_
      rw [HEQ.out]
      have HN2 : Hid (Nx w (wr.drew.setRow (w.heap.size + 1 + 1) (hcel PT))) := Lib.hid (HN.out.drew.setRow _ (by omega))
      have R0' := Row.setRow_other (show Row wr.drew w.heap.size _ _ from R0) (k := w.heap.size + 1 + 1) (hcel PT) (by omega)
      have R1' := Row.setRow_other (show Row wr.drew (w.heap.size + 1) _ _ from R1) (k := w.heap.size + 1 + 1) (hcel PT) (by omega)
      have R2'' := Row.setRow R2' (hcel PT)
      clear R0 R1 R2 R2' HC HMIN HFIT HEQ HN hsl1 hsl2
      generalize wr.drew.setRow (w.heap.size + 1 + 1) (hcel PT) = wq at *
      have hz8 : (Tryd.prog.info? 55).map (·.size) = some (ints .u32 t.list).size := by rw [ints_size]; exact hzs.out
      replace hz8 := Lib.hid hz8
      have hz64 : (Tryd.prog.info? 67).map (·.size) = some (hcel PT).size := by rw [hcel_size, HPL.out]; exact hzbs.out
      replace hz64 := Lib.hid hz64
      have HRD := Lib.hid (round_any t PT wq HO.out HPL.out (HK.out.nx HN2.out))
      rw [← HSK.out] at HRD
      go_wp2_with (first
        | (refine wpList_load_row rfl 55 (.tmp 2) rfl w.heap.size rfl 55 (ints .u32 t.list) (0, 0) _ R0' Tryd.underlying55 rfl hz8.out ?_)
        | (refine wpList_load_row rfl 67 (.tmp 5) rfl (w.heap.size + 1 + 1) rfl 67 (hcel PT) (0, 0) _ R2'' Tryd.underlying67 rfl hz64.out ?_))
      refine HRD.out.mono ?_
      rintro e w2 ⟨rfl, hb2⟩
      have HN3 := Lib.hid (HN2.out.trans hb2)
      have R0n := R0'.nx hb2
      have R1n := R1'.nx hb2
      have R2n := R2''.nx hb2
      clear hb2 R0' R1' R2'' HN2 HRD hz64
      have HTL : Hid (t.list.length = 8) := Lib.hid rfl
      have HSL2 : Hid ((s.rounds l (k + 1)).list.length = 8) := Lib.hid rfl
      generalize HG : (s.rounds l (k + 1)).list = SL at *
      replace HG := Lib.hid HG
      generalize t.list = TL at *
      have hz9 : (Tryd.prog.info? 55).map (·.size) = some (ints .u32 SL).size := by rw [ints_size, HSL2.out]; exact hzs.out
      replace hz9 := Lib.hid hz9
      have ho9 : (ints .u32 TL).size = (ints .u32 SL).size := by rw [ints_size, ints_size, HTL.out, HSL2.out]
      replace ho9 := Lib.hid ho9
      clear HSK HO
      go_wp2_with (refine wpList_store_row rfl 55 (.tmp 2) (.tmp 20) rfl w.heap.size (ints .u32 SL) rfl rfl 55 (ints .u32 TL) R0n hz9.out ho9.out (ints_one _ _) ?_)
      go_roundw
      case rel =>
        refine ⟨k + 1, by omega, ?_, HN3.out.setRow _ (by omega), ?_, R1n.setRow_other _ (by omega), PT, HPL, R2n.setRow_other _ (by omega)⟩
        · have := hat.out
          have e : (at_ : Int) + 64 = ((64 * (k + 1) : Nat) : Int) := by omega
          rw [e]
        · rw [HG.out]
          exact R0n.setRow _
      case measure =>
        have := hat.out
        have := HLK.out
        have := HL.out
        simp [intOf]; omega
    · obtain rfl : k = N := by omega
      have HNE : Hid (¬ ((64 * k : Nat) : Int) < (l.length : Int)) := Lib.hid (by have := HL.out; omega)
      have hne := HNE.out
      have HG : Hid ((s.rounds l k).list.length = 8) := Lib.hid rfl
      obtain ⟨SL, hSL⟩ : ∃ SL, (s.rounds l k).list = SL := ⟨_, rfl⟩
      rw [hSL] at R0 HG
      replace hSL := Lib.hid hSL
      have hz9 : (Tryd.prog.info? 55).map (·.size) = some (ints .u32 SL).size := by rw [ints_size, HG.out]; exact hzs.out
      replace hz9 := Lib.hid hz9
      have ho9 : (ints .u32 [0, 0, 0, 0, 0, 0, 0, 0]).size = (ints .u32 SL).size := by rw [ints_size, ints_size, HG.out]; rfl
      replace ho9 := Lib.hid ho9
      have hl1 : w.heap.size ≤ w.heap.size + 1 := by omega
      clear HA HST HOK HS0 HL
      generalize 64 * k = at_ at *
      go_wp2_with (first | (refine wpList_load_row rfl 55 (.tmp 2) rfl w.heap.size rfl 55 (ints .u32 SL) (0, 0) _ R0 Tryd.underlying55 rfl hz9.out ?_) | (refine wpList_store_row rfl 55 (.tmp 4) (.tmp 21) rfl (w.heap.size + 1) (ints .u32 SL) rfl rfl 55 (ints .u32 [0, 0, 0, 0, 0, 0, 0, 0]) R1 hz9.out ho9.out (ints_one _ _) ?_))
      exact bodyPost_ret (results_cell_row Tryd.results34 _ _ (w.heap.size + 1) 55 (ints .u32 SL) (0, 0) _ rfl (R1.setRow _) Tryd.underlying55 rfl hz9.out) rfl ⟨by rw [hSL.out], HN.out.setRow _ hl1⟩
end Go.Proofs.YtpkopigiijiiiaaDoor
end

section
namespace Go.Proofs.YtpkopigiijiiiaaDoor
open Go.RowKit
set_option linter.unusedVariables false
set_option linter.unusedSimpArgs false

theorem own_from {B : Nat} {w : World} {f : FuncId} {args : Array Value} {l : List UInt8} (hB : B ≤ w.heap.size) (h : Calls Tryd.prog f args w fun e w' => ∃ v, e = .returned v ∧ Own w.heap.size w' v l ∧ Nx w w') :
    Calls Tryd.prog f args w fun e w' => ∃ v, e = .returned v ∧ Own B w' v l ∧ Nx w w' := h.mono fun _ _ ⟨v, he, ho, hn⟩ => ⟨v, he, ho.mono hB, hn⟩
def Sum1 (ZZ : List UInt8) (A : Option Addr) (n c wh : Nat) (S1 : St) (w W : World) (_u : Value) (L : Nat → Bool) (ac : Act) (wr : World) : Prop :=
  ∃ x0 x1 x2 x3 x4 x5 : Value, ac = ⟨#[Value.slice A n c, undef, Value.pointer (some { block := w.heap.size, off := 0 }), Value.int IntKind.i64 ↑wh, x5, Value.slice A n c, Value.int IntKind.i64 ↑n, Value.slice A n c, Value.int IntKind.i64 ↑n, Value.int IntKind.i64 (↑n % 64), Value.int IntKind.i64 ↑wh, x0, x1, x2, x3, x4, undef, undef, undef, undef, undef, undef, undef, undef, undef, undef, undef], []⟩ ∧ Nx w wr ∧ W.heap.size ≤ wr.heap.size ∧ Row wr w.heap.size (hcel ZZ) 23 ∧ (L 0 = true → x0 = .agg (ints .u32 beginS.list)) ∧ (L 1 = true → x1 = .slice A n c) ∧ (L 2 = true → x2 = .int .i64 (wh : Int)) ∧ (L 3 = true → x3 = .slice A wh c) ∧ (L 4 = true → x4 = .agg (ints .u32 S1.list)) ∧ (L 5 = true → ∃ g, x5 = .pointer (some ⟨g, 0, none⟩) ∧ W.heap.size ≤ g ∧ Row wr g (if L 6 = true then (ints .u32 S1.list) else (ints .u32 [0, 0, 0, 0, 0, 0, 0, 0])) 55) ∧ (L 6 = true → L 5 = true)
def Sum2 (ZZ : List UInt8) (A : Option Addr) (n c wh g5 : Nat) (S1 S2 : St) (LD PB H : List UInt8) (w W : World) (_u : Value) (L : Nat → Bool) (ac : Act) (wr : World) : Prop :=
  ∃ x0 x1 x2 x3 x4 x5 x6 x7 x8 x9 x10 : Value, ac = ⟨#[Value.slice A n c, undef, Value.pointer (some { block := w.heap.size, off := 0 }), Value.int IntKind.i64 ↑wh, Value.pointer (some { block := g5, off := 0 }), Value.slice A n c, Value.int IntKind.i64 ↑n, Value.slice A n c, Value.int IntKind.i64 ↑n, Value.int IntKind.i64 (↑n % 64), Value.int IntKind.i64 ↑wh, Value.agg (ints IntKind.u32 beginS.list), Value.slice A n c, Value.int IntKind.i64 ↑wh, Value.slice A wh c, Value.agg (ints IntKind.u32 S1.list), x0, x1, x2, x3, x4, x5, x6, x7, x8, x9, x10], []⟩ ∧ Nx w wr ∧ W.heap.size ≤ wr.heap.size ∧ Row wr w.heap.size (if L 11 = true then hcel H else (hcel ZZ)) 23 ∧ Row wr g5 (ints .u32 S1.list) 55 ∧ (L 0 = true → x0 = .agg (ints .u32 S1.list)) ∧ (L 1 = true → x1 = .slice A n c) ∧ (L 2 = true → x2 = .int .i64 (wh : Int)) ∧ (L 3 = true → x3 = fromV A n c wh) ∧ (L 4 = true → x4 = .slice A n c) ∧ (L 5 = true → x5 = .int .i64 (n : Int)) ∧ (L 6 = true → L 11 = false → Own W.heap.size wr x6 PB) ∧ (L 7 = true → L 11 = false → CatAt x7 [LD, PB] wr) ∧ (L 8 = true → L 11 = false → Own W.heap.size wr x8 (LD ++ PB)) ∧ (L 9 = true → x9 = .agg (ints .u32 S2.list)) ∧ (L 10 = true → x10 = .agg (hcel H)) ∧ (L 11 = true → L 6 = true) ∧ (L 11 = true → L 7 = true) ∧ (L 11 = true → L 8 = true) ∧ (L 11 = true → L 9 = true)

set_option maxHeartbeats 4000000 in
set_option maxRecDepth 100000 in
theorem sum_any (vb : Value) (l : List UInt8) (w : World) (hk : KIs w) (hr : Rd w vb l) (hn : l.length ≤ 140737488355000) :
    Calls Tryd.prog 26 #[vb] w fun e w' => e = .returned (.agg (hcel (shaL l))) ∧ Nx w w' := by
  obtain ⟨hz, hzs⟩ := zero_of_info info_hash'
  obtain ⟨hz8, hzs8⟩ := zero_of_info info_w8
  have HKK := Lib.hid hk
  have HPARTS := Lib.hid (shaS_parts l)
  have HREST := Lib.hid (rest_length l)
  have HOK1 : Hid (beginS.rounds (l.take (l.length - l.length % 64)) (l.length / 64)).ok := Lib.hid (St.ok.rounds begin_ok _ _)
  have HOKS : Hid (shaS l).ok := Lib.hid (St.ok.rounds begin_ok _ _)
  have HHL : Hid ((shaL l).length = 32) := Lib.hid (shaL_length l)
  have HT : Hid (∀ w, Calls Tryd.prog 36 #[.agg (ints .u32 (shaS l).list)] w fun e w' => e = .returned (.agg (hcel (shaL l))) ∧ Nx w w') := Lib.hid fun w => htold_any (shaS l) w HOKS.out
  obtain ⟨A, c, rfl, hc, hm, ha⟩ := hr
  have HR1 : Hid (∀ wr, Nx w wr → Calls Tryd.prog 34 #[.agg (ints .u32 beginS.list), .slice A (l.length - l.length % 64) c] wr fun e w' => e = .returned (.agg (ints .u32 (beginS.rounds (l.take (l.length - l.length % 64)) (l.length / 64)).list)) ∧ Nx wr w') := Lib.hid fun wr h =>
    rounds_any beginS _ _ _ wr begin_ok (HKK.out.nx h) ((Rd.pre ha (m := l.length - l.length % 64) (by omega) (by omega) hm).nx h) (by rw [List.length_take]; omega) (by rw [List.length_take]; omega)
  have HR2 : Hid (∀ wr v, Nx w wr → Rd wr v (l.drop (l.length - l.length % 64) ++ padB l.length) → Calls Tryd.prog 34 #[.agg (ints .u32 (beginS.rounds (l.take (l.length - l.length % 64)) (l.length / 64)).list), v] wr fun e w' => e = .returned (.agg (ints .u32 (shaS l).list)) ∧ Nx wr w') := Lib.hid fun wr v h hr => by
    rw [HPARTS.out]
    exact rounds_any _ _ _ v wr HOK1.out (HKK.out.nx h) hr HREST.out (by have := rest_length l; unfold gapN at this; omega)
  have HRD : Hid (Rd w (fromV A l.length c (l.length - l.length % 64)) (l.drop (l.length - l.length % 64))) := Lib.hid (fromV_rd ha hc hm _ (by omega))
  have HE : Hid (∀ w, Calls Tryd.prog 37 #[.int .i64 (l.length : Int)] w fun e w' => ∃ v, e = .returned v ∧ Own w.heap.size w' v (padB l.length) ∧ Nx w w') := Lib.hid fun w => ending_any l.length w (by omega)
  have HCC : Hid (∀ {B : Nat} (wr : World) (x : Value), CatAt x [l.drop (l.length - l.length % 64), padB l.length] wr → B ≤ wr.heap.size → Calls Tryd.prog 27 #[x] wr fun e w' => ∃ v, e = .returned v ∧ Own B w' v (l.drop (l.length - l.length % 64) ++ padB l.length) ∧ Nx wr w') := Lib.hid fun wr x h hB => by
    have := concat_at wr h (by simp) (by have := rest_length l; unfold gapN at this; simp only [List.flatten_cons, List.flatten_nil, List.append_nil]; omega) _ hB
    simpa only [List.flatten_cons, List.flatten_nil, List.append_nil] using this
  have HS1 := Lib.hid (fun w' => slice_to (P := Tryd.prog) 28 5 Tryd.underlying28 Tryd.sizeOf5 A l.length c (l.length - l.length % 64) ((l.length - l.length % 64 : Nat) : Int) rfl (by omega) w')
  have HS2 := Lib.hid (fun w' => slice_fromV (P := Tryd.prog) 28 5 Tryd.underlying28 Tryd.sizeOf5 A l.length c (l.length - l.length % 64) ((l.length - l.length % 64 : Nat) : Int) rfl (by omega) hc w')
  have hwh : (l.length : Int) - (l.length : Int) % 64 = ((l.length - l.length % 64 : Nat) : Int) := by omega
  have hni : (l.length : Int) ≤ 140737488355000 := by omega
  have HSL1 : Hid (∀ s : St, s.list.length = 8) := Lib.hid fun _ => rfl
  have HZZ : Hid ((List.replicate 32 (0 : UInt8)).length = 32) := Lib.hid List.length_replicate
  clear HKK HPARTS HREST HOK1 HOKS ha hk hn hm hc
  generalize shaL l = H at *
  generalize shaS l = S2 at *
  generalize beginS.rounds (l.take (l.length - l.length % 64)) (l.length / 64) = S1 at *
  generalize l.drop (l.length - l.length % 64) = LD at *
  generalize padB l.length = PB at *
  generalize hWH : l.length - l.length % 64 = wh at *
  generalize l.length = n at *
  generalize List.replicate 32 (0 : UInt8) = ZZ at *
  clear hWH l
  have hi1 : Hid ((Tryd.prog.info? 55).map (·.size) = some (ints .u32 S1.list).size) := Lib.hid (by rw [ints_size, HSL1.out]; exact hzs8)
  have ho1 : Hid ((ints .u32 [0, 0, 0, 0, 0, 0, 0, 0]).size = (ints .u32 S1.list).size) := Lib.hid (by rw [ints_size, ints_size, HSL1.out]; rfl)
  have hi2 : Hid ((Tryd.prog.info? 23).map (·.size) = some (hcel H).size) := Lib.hid (by rw [hcel_size, HHL.out]; exact hzs)
  have ho2 : Hid ((hcel ZZ).size = (hcel H).size) := Lib.hid (by rw [hcel_size, hcel_size, HHL.out, HZZ.out])
  replace hz8 := Lib.hid hz8
  go_enter Tryd.func26, Tryd.ntmps26
  go_wp2_with fail
  have HN0 : Hid (Nx w (w.alloc (.cells (hcel ZZ) 23))) := Lib.hid ((Nx.refl w).alloc _)
  have K00 := Row.new w (hcel ZZ) 23 _ rfl
  have HW0 : w.heap.size ≤ (w.alloc (.cells (hcel ZZ) 23)).heap.size := HN0.out.size
  have HK0 : w.heap.size < (w.alloc (.cells (hcel ZZ) 23)).heap.size := K00.lt
  generalize w.alloc (.cells (hcel ZZ) 23) = W at *
  replace hz := Lib.hid hz
  refine wp_region_inv [[], [], [], [1, 2], [0, 3, 0], [], [5, 4, 4, 0, 1, 2, 3, 4, 5]] (Sum1 ZZ A n c wh S1 w W undef) (by kernel_rfl) (by kernel_rfl) (hord_of (by decide)) ?_ ?_ ?_
  · exact ⟨_, _, _, _, _, _, rfl, HN0.out.drew, Nat.le_refl _, K00.drew, (fun h => by cases h), (fun h => by cases h), (fun h => by cases h), (fun h => by cases h), (fun h => by cases h), (fun h => by cases h), (fun h => by cases h)⟩
  · rintro L ac wr ⟨x0, x1, x2, x3, x4, x5, rfl, HN, HZ, K0, F0, F1, F2, F3, F4, F5, S6⟩ i hi hL hd K hK
    have hi' : i < 7 := hi
    have hcs : i = 0 ∨ i = 1 ∨ i = 2 ∨ i = 3 ∨ i = 4 ∨ i = 5 ∨ i = 6 := by omega
    clear hi hi'
    rcases hcs with rfl | rfl | rfl | rfl | rfl | rfl | rfl
    · refine wpOp_of rfl rfl (wp_call_of (some 11) rfl 35 #[] (by kernel_rfl) _ (begin_any wr) (fun w' hn => hK _ _ ?_))
      exact ⟨_, x1, x2, x3, x4, x5, rfl, HN.trans hn, Nat.le_trans HZ hn.size, K0.nx hn, (fun _ => rfl), F1, F2, F3, F4, (fun h => by obtain ⟨g, e, hg, r⟩ := F5 h; exact ⟨g, e, hg, r.nx hn⟩), S6⟩
    · refine wpOp_of rfl rfl (wp_val_of (some 12) rfl (.slice A n c) (by kernel_rfl) (hK _ _ ?_))
      exact ⟨x0, _, x2, x3, x4, x5, rfl, HN, HZ, K0, F0, (fun _ => rfl), F2, F3, F4, F5, S6⟩
    · refine wpOp_of rfl rfl (wp_val_of (some 13) rfl (.int .i64 (wh : Int)) (by kernel_rfl) (hK _ _ ?_))
      exact ⟨x0, x1, _, x3, x4, x5, rfl, HN, HZ, K0, F0, F1, (fun _ => rfl), F3, F4, F5, S6⟩
    · have e1 := F1 (hd 1 (by decide))
      subst e1
      have e2 := F2 (hd 2 (by decide))
      subst e2
      refine wpOp_of rfl rfl (wp_slice_of (some 14) rfl 28 ((.tmp 12)) none ((some (.tmp 13))) none rfl (.slice A wh c) (HS1.out wr) (hK _ _ ?_))
      exact ⟨x0, _, _, _, x4, x5, rfl, HN, HZ, K0, F0, F1, F2, (fun _ => rfl), F4, F5, S6⟩
    · have e0 := F0 (hd 0 (by decide))
      subst e0
      have e3 := F3 (hd 3 (by decide))
      subst e3
      refine wpOp_of rfl rfl (wp_call_of (some 15) rfl 34 #[.agg (ints .u32 beginS.list), .slice A wh c] (by kernel_rfl) _ (HR1.out wr HN) (fun w' hn => hK _ _ ?_))
      exact ⟨_, x1, x2, _, _, x5, rfl, HN.trans hn, Nat.le_trans HZ hn.size, K0.nx hn, F0, F1, F2, F3, (fun _ => rfl), (fun h => by obtain ⟨g, e, hg, r⟩ := F5 h; exact ⟨g, e, hg, r.nx hn⟩), S6⟩
    · have hs : L 6 = false := by
          rcases h : L 6 with _ | _
          · rfl
          · rw [S6 h] at hL; cases hL
      refine wpOp_of rfl rfl (wp_alloc_of (some 4) rfl 55 rfl ((ints .u32 [0, 0, 0, 0, 0, 0, 0, 0])) hz8.out (hK _ _ ?_))
      exact ⟨x0, x1, x2, x3, x4, _, rfl, HN.alloc _, Nat.le_trans HZ (by rw [alloc_size]; exact Nat.le_succ _), K0.alloc _, F0, F1, F2, F3, F4, (fun _ => ⟨_, rfl, HZ, by show Row _ _ (if L 6 = true then _ else _) _; rw [hs]; exact Row.new _ _ _ _ rfl⟩), (fun _ => rfl)⟩
    · have e4 := F4 (hd 4 (by decide))
      subst e4
      obtain ⟨ga, ea, hga, ra⟩ := F5 (hd 5 (by decide))
      subst ea
      rw [if_neg (by rw [hL]; decide)] at ra
      refine wpOp_of rfl rfl (wp_store_row 55 (.tmp 4) (.tmp 15) rfl ga ((ints .u32 S1.list)) rfl rfl 55 ((ints .u32 [0, 0, 0, 0, 0, 0, 0, 0])) ra hi1.out ho1.out (ints_one _ _) (hK _ _ ?_))
      exact ⟨x0, x1, x2, x3, _, _, rfl, HN.setRow _ (Nat.le_trans HW0 hga), (by rw [size_setRow]; exact HZ), K0.setRow_other _ (Nat.ne_of_lt (Nat.lt_of_lt_of_le HK0 hga)), F0, F1, F2, F3, F4, (fun _ => ⟨ga, rfl, hga, ra.setRow _⟩), (fun _ => hd 5 (by decide))⟩
  · rintro L ac wr ⟨x0, x1, x2, x3, x4, x5, rfl, HN, HZ, K0, F0, F1, F2, F3, F4, F5, S6⟩ hall
    have hall' : ∀ i, i < 7 → L i = true := hall
    have e0 := F0 (hall' 0 (by decide))
    have e1 := F1 (hall' 1 (by decide))
    have e2 := F2 (hall' 2 (by decide))
    have e3 := F3 (hall' 3 (by decide))
    have e4 := F4 (hall' 4 (by decide))
    obtain ⟨g5, e5, hg5, r5⟩ := F5 (hall' 5 (by decide))
    rw [if_pos (hall' 6 (by decide))] at r5
    subst e0 e1 e2 e3 e4 e5
    clear F0 F1 F2 F3 F4 F5 S6 hall hall'
    have HNA := Lib.hid HN
    have RA := r5
    have RZ := K0
    have hne : w.heap.size ≠ g5 := Nat.ne_of_lt (Nat.lt_of_lt_of_le HK0 hg5)
    clear HN K0 r5 HZ K00 HN0 HW0 HK0 hg5
    generalize hwr : wr = W2 at *
    clear hwr
    go_wp2_with fail
    have HN0 := HNA
    have K00 := RZ
    have K10 := RA
    have hg5 : g5 ≠ w.heap.size := Ne.symm hne
    refine wp_region_inv [[], [], [], [1, 2], [], [4], [5], [3, 6], [7, 6], [0, 8, 8], [9, 9], [10, 10, 0, 1, 2, 3, 4, 5, 6, 7, 8, 9, 10]] (Sum2 ZZ A n c wh g5 S1 S2 LD PB H w W2 undef) (by kernel_rfl) (by kernel_rfl) (hord_of (by decide)) ?_ ?_ ?_
    · exact ⟨_, _, _, _, _, _, _, _, _, _, _, rfl, HN0.out.drew, Nat.le_refl _, K00.drew, K10.drew, (fun h => by cases h), (fun h => by cases h), (fun h => by cases h), (fun h => by cases h), (fun h => by cases h), (fun h => by cases h), (fun h => by cases h), (fun h => by cases h), (fun h => by cases h), (fun h => by cases h), (fun h => by cases h), (fun h => by cases h), (fun h => by cases h), (fun h => by cases h), (fun h => by cases h)⟩
    · rintro L ac wr ⟨x0, x1, x2, x3, x4, x5, x6, x7, x8, x9, x10, rfl, HN, HZ, K0, K1, F0, F1, F2, F3, F4, F5, F6, F7, F8, F9, F10, T11_6, T11_7, T11_8, T11_9⟩ i hi hL hd K hK
      have hi' : i < 12 := hi
      have hcs : i = 0 ∨ i = 1 ∨ i = 2 ∨ i = 3 ∨ i = 4 ∨ i = 5 ∨ i = 6 ∨ i = 7 ∨ i = 8 ∨ i = 9 ∨ i = 10 ∨ i = 11 := by omega
      clear hi hi'
      rcases hcs with rfl | rfl | rfl | rfl | rfl | rfl | rfl | rfl | rfl | rfl | rfl | rfl
      · refine wpOp_of rfl rfl (wp_load_row 55 (.tmp 4) rfl g5 rfl 55 ((ints .u32 S1.list)) (0, 0) _ K1 Tryd.underlying55 rfl hi1.out (hK _ _ ?_))
        exact ⟨_, x1, x2, x3, x4, x5, x6, x7, x8, x9, x10, rfl, HN, HZ, K0, K1, (fun _ => rfl), F1, F2, F3, F4, F5, F6, F7, F8, F9, F10, T11_6, T11_7, T11_8, T11_9⟩
      · refine wpOp_of rfl rfl (wp_val_of (some 17) rfl (.slice A n c) (by kernel_rfl) (hK _ _ ?_))
        exact ⟨x0, _, x2, x3, x4, x5, x6, x7, x8, x9, x10, rfl, HN, HZ, K0, K1, F0, (fun _ => rfl), F2, F3, F4, F5, F6, F7, F8, F9, F10, T11_6, T11_7, T11_8, T11_9⟩
      · refine wpOp_of rfl rfl (wp_val_of (some 18) rfl (.int .i64 (wh : Int)) (by kernel_rfl) (hK _ _ ?_))
        exact ⟨x0, x1, _, x3, x4, x5, x6, x7, x8, x9, x10, rfl, HN, HZ, K0, K1, F0, F1, (fun _ => rfl), F3, F4, F5, F6, F7, F8, F9, F10, T11_6, T11_7, T11_8, T11_9⟩
      · have e1 := F1 (hd 1 (by decide))
        subst e1
        have e2 := F2 (hd 2 (by decide))
        subst e2
        refine wpOp_of rfl rfl (wp_slice_of (some 19) rfl 28 ((.tmp 17)) ((some (.tmp 18))) none none rfl (fromV A n c wh) (HS2.out wr) (hK _ _ ?_))
        exact ⟨x0, _, _, _, x4, x5, x6, x7, x8, x9, x10, rfl, HN, HZ, K0, K1, F0, F1, F2, (fun _ => rfl), F4, F5, F6, F7, F8, F9, F10, T11_6, T11_7, T11_8, T11_9⟩
      · refine wpOp_of rfl rfl (wp_val_of (some 20) rfl (.slice A n c) (by kernel_rfl) (hK _ _ ?_))
        exact ⟨x0, x1, x2, x3, _, x5, x6, x7, x8, x9, x10, rfl, HN, HZ, K0, K1, F0, F1, F2, F3, (fun _ => rfl), F5, F6, F7, F8, F9, F10, T11_6, T11_7, T11_8, T11_9⟩
      · have e4 := F4 (hd 4 (by decide))
        subst e4
        refine wpOp_of rfl rfl (wp_val_of (some 21) rfl (.int .i64 (n : Int)) (by kernel_rfl) (hK _ _ ?_))
        exact ⟨x0, x1, x2, x3, _, _, x6, x7, x8, x9, x10, rfl, HN, HZ, K0, K1, F0, F1, F2, F3, F4, (fun _ => rfl), F6, F7, F8, F9, F10, T11_6, T11_7, T11_8, T11_9⟩
      · have hs11 : L 11 = false := by
            rcases h : L 11 with _ | _
            · rfl
            · rw [T11_6 h] at hL; cases hL
        have e5 := F5 (hd 5 (by decide))
        subst e5
        refine wpOp_of rfl rfl (wp_callp_of (some 22) rfl 37 #[.int .i64 (n : Int)] (by kernel_rfl) (fun x w => Own W2.heap.size w x PB) (own_from HZ (HE.out wr)) (fun v w' hp hn => hK _ _ ?_))
        exact ⟨x0, x1, x2, x3, x4, _, _, x7, x8, x9, x10, rfl, HN.trans hn, Nat.le_trans HZ hn.size, K0.nx hn, K1.nx hn, F0, F1, F2, F3, F4, F5, (fun _ _ => hp), (fun h h11 => CatAt.nx (F7 h h11) hn), (fun h h11 => Own.nx (F8 h h11) hn), F9, F10, (fun _ => rfl), T11_7, T11_8, T11_9⟩
      · have hs11 : L 11 = false := by
            rcases h : L 11 with _ | _
            · rfl
            · rw [T11_7 h] at hL; cases hL
        have e3 := F3 (hd 3 (by decide))
        subst e3
        have p6 := F6 (hd 6 (by decide)) hs11
        refine wpOp_of rfl rfl (wp_mk_of (some 23) rfl 60 2 _ rfl (#[(0, fromV A n c wh), (1, x6)]) (by kernel_rfl) _ _ (run_mk2 (HRD.out.nx HN).sl p6.rd.sl wr) (hK _ _ ?_))
        have hp := catAt2 (HRD.out.nx HN) p6.rd
        exact ⟨x0, x1, x2, _, x4, x5, x6, _, x8, x9, x10, rfl, HN.alloc _, Nat.le_trans HZ (by rw [alloc_size]; exact Nat.le_succ _), K0.alloc _, K1.alloc _, F0, F1, F2, F3, F4, F5, (fun h h11 => Own.nx (F6 h h11) ((Nx.refl wr).alloc _)), (fun _ _ => hp), (fun h h11 => Own.nx (F8 h h11) ((Nx.refl wr).alloc _)), F9, F10, T11_6, (fun _ => rfl), T11_8, T11_9⟩
      · have hs11 : L 11 = false := by
            rcases h : L 11 with _ | _
            · rfl
            · rw [T11_8 h] at hL; cases hL
        have p7 := F7 (hd 7 (by decide)) hs11
        refine wpOp_of rfl rfl (wp_callp_of (some 24) rfl 27 #[_] (by kernel_rfl) (fun x w => Own W2.heap.size w x (LD ++ PB)) (HCC.out wr _ p7 HZ) (fun v w' hp hn => hK _ _ ?_))
        exact ⟨x0, x1, x2, x3, x4, x5, x6, x7, _, x9, x10, rfl, HN.trans hn, Nat.le_trans HZ hn.size, K0.nx hn, K1.nx hn, F0, F1, F2, F3, F4, F5, (fun h h11 => Own.nx (F6 h h11) hn), (fun h h11 => CatAt.nx (F7 h h11) hn), (fun _ _ => hp), F9, F10, T11_6, T11_7, (fun _ => rfl), T11_9⟩
      · have hs11 : L 11 = false := by
            rcases h : L 11 with _ | _
            · rfl
            · rw [T11_9 h] at hL; cases hL
        have e0 := F0 (hd 0 (by decide))
        subst e0
        have p8 := F8 (hd 8 (by decide)) hs11
        refine wpOp_of rfl rfl (wp_call_of (some 25) rfl 34 #[.agg (ints .u32 S1.list), _] (by kernel_rfl) _ (HR2.out wr _ HN p8.rd) (fun w' hn => hK _ _ ?_))
        exact ⟨_, x1, x2, x3, x4, x5, x6, x7, x8, _, x10, rfl, HN.trans hn, Nat.le_trans HZ hn.size, K0.nx hn, K1.nx hn, F0, F1, F2, F3, F4, F5, (fun h h11 => Own.nx (F6 h h11) hn), (fun h h11 => CatAt.nx (F7 h h11) hn), (fun h h11 => Own.nx (F8 h h11) hn), (fun _ => rfl), F10, T11_6, T11_7, T11_8, (fun _ => rfl)⟩
      · have e9 := F9 (hd 9 (by decide))
        subst e9
        refine wpOp_of rfl rfl (wp_call_of (some 26) rfl 36 #[.agg (ints .u32 S2.list)] (by kernel_rfl) _ (HT.out wr) (fun w' hn => hK _ _ ?_))
        exact ⟨x0, x1, x2, x3, x4, x5, x6, x7, x8, _, _, rfl, HN.trans hn, Nat.le_trans HZ hn.size, K0.nx hn, K1.nx hn, F0, F1, F2, F3, F4, F5, (fun h h11 => Own.nx (F6 h h11) hn), (fun h h11 => CatAt.nx (F7 h h11) hn), (fun h h11 => Own.nx (F8 h h11) hn), F9, (fun _ => rfl), T11_6, T11_7, T11_8, T11_9⟩
      · have e10 := F10 (hd 10 (by decide))
        subst e10
        rw [if_neg (by rw [hL]; decide)] at K0
        refine wpOp_of rfl rfl (wp_store_row 23 (.tmp 2) (.tmp 26) rfl w.heap.size (hcel H) rfl rfl 23 ((hcel ZZ)) K0 hi2.out ho2.out (hcel_one _) (hK _ _ ?_))
        exact ⟨x0, x1, x2, x3, x4, x5, x6, x7, x8, x9, _, rfl, HN.setRow _ (Nat.le_refl _), (by rw [size_setRow]; exact HZ), K0.setRow _, K1.setRow_other _ hg5, F0, F1, F2, F3, F4, F5, (fun _ hc => by cases hc), (fun _ hc => by cases hc), (fun _ hc => by cases hc), F9, F10, (fun _ => hd 6 (by decide)), (fun _ => hd 7 (by decide)), (fun _ => hd 8 (by decide)), (fun _ => hd 9 (by decide))⟩
    · rintro L ac wr ⟨x0, x1, x2, x3, x4, x5, x6, x7, x8, x9, x10, rfl, HN, HZ, K0, K1, F0, F1, F2, F3, F4, F5, F6, F7, F8, F9, F10, T11_6, T11_7, T11_8, T11_9⟩ hall
      have hall' : ∀ i, i < 12 → L i = true := hall
      have e0 := F0 (hall' 0 (by decide))
      have e1 := F1 (hall' 1 (by decide))
      have e2 := F2 (hall' 2 (by decide))
      have e3 := F3 (hall' 3 (by decide))
      have e4 := F4 (hall' 4 (by decide))
      have e5 := F5 (hall' 5 (by decide))
      have e9 := F9 (hall' 9 (by decide))
      have e10 := F10 (hall' 10 (by decide))
      rw [if_pos (hall' 11 (by decide))] at K0
      subst e0 e1 e2 e3 e4 e5 e9 e10
      clear F0 F1 F2 F3 F4 F5 F6 F7 F8 F9 F10 T11_6 T11_7 T11_8 T11_9 hall hall'
      go_wp2_with fail
      exact bodyPost_ret (results_cell_row Tryd.results26 _ _ w.heap.size 23 (hcel H) (0, 0) _ rfl K0 Tryd.underlying23 rfl hi2.out) rfl ⟨rfl, HN⟩
end Go.Proofs.YtpkopigiijiiiaaDoor
end

section
namespace Go.Proofs.YtpkopigiijiiiaaDoor
open Go.RowKit
set_option linter.unusedVariables false
set_option linter.unusedSimpArgs false

/-- An array that stands in a block, read as a slice. -/
theorem Row.rd {w : World} {g : Nat} {l : List UInt8} {t : TypeId} (h : Row w g (hcel l) t) (n : Nat) (hn : l.length = n) (hm : n ≤ 1000) : Rd w (.slice (some ⟨g, 0, none⟩) n n) l := by
  subst hn
  exact ⟨_, _, rfl, Nat.le_refl _, by simp only [maxLen]; omega, At.of_cells h.lt fun j hj => by rw [Nat.zero_add]; exact h.cell (hcel_get l j hj)⟩

theorem info_rows1 : (Tryd.prog.info? 23).map (·.size) = some 32 := by kernel_rfl
theorem hashsz (l : List UInt8) (h : l.length = 32) : (Tryd.prog.info? 23).map (·.size) = some (hcel l).size := by rw [hcel_size, h]; exact info_rows1
theorem hashsame (l m : List UInt8) (h : l.length = 32) (h' : m.length = 32) : (hcel l).size = (hcel m).size := by rw [hcel_size, hcel_size, h, h']

end Go.Proofs.YtpkopigiijiiiaaDoor
end

section
namespace Go.Proofs.YtpkopigiijiiiaaDoor
open Go.RowKit
set_option linter.unusedVariables false
set_option linter.unusedSimpArgs false

theorem run_mk1 (x : UInt8) (w : World) : (Instr.buildSlice 28 1 #[(0, .int .u8 (x.toNat : Int))]).run Tryd.prog w = .ok (.slice (some ⟨w.heap.size, 0, none⟩) 1 1) (w.alloc (.cells #[.int .u8 (x.toNat : Int)] 5)) := by kernel_rfl
def Pair1 (ZZ a b H : List UInt8) (w W : World) (_u : Value) (L : Nat → Bool) (ac : Act) (wr : World) : Prop :=
  ∃ x0 x1 x2 x3 x4 x5 : Value, ac = ⟨#[Value.agg (hcel a), Value.agg (hcel b), Value.pointer (some { block := w.heap.size, off := 0 }), Value.pointer (some { block := w.heap.size + 1, off := 0 }), Value.pointer (some { block := w.heap.size + 1 + 1, off := 0 }), x0, x1, x2, x3, x4, x5], []⟩ ∧ Nx w wr ∧ W.heap.size ≤ wr.heap.size ∧ Row wr w.heap.size (hcel a) 23 ∧ Row wr (w.heap.size + 1) (hcel b) 23 ∧ Row wr (w.heap.size + 1 + 1) (if L 6 = true then hcel H else (hcel ZZ)) 23 ∧ (L 0 = true → L 6 = false → Own W.heap.size wr x0 [1]) ∧ (L 1 = true → x1 = .slice (some ⟨w.heap.size, 0, none⟩) 32 32) ∧ (L 2 = true → x2 = .slice (some ⟨w.heap.size + 1, 0, none⟩) 32 32) ∧ (L 3 = true → L 6 = false → CatAt x3 [[1], a, b] wr) ∧ (L 4 = true → L 6 = false → Own W.heap.size wr x4 ([1] ++ (a ++ b))) ∧ (L 5 = true → x5 = .agg (hcel H)) ∧ (L 6 = true → L 0 = true) ∧ (L 6 = true → L 3 = true) ∧ (L 6 = true → L 4 = true) ∧ (L 6 = true → L 5 = true)

end Go.Proofs.YtpkopigiijiiiaaDoor
end
