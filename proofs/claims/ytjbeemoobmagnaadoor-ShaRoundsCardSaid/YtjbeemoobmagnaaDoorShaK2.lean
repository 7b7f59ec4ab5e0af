/- LAYER 2: the document's add, times. -/
import Derived.Test.YtjbeemoobmagnaaDoorShaK
import Derived.Test.YtjbeemoobmagnaaDoorGf
namespace Go.Proofs.YtjbeemoobmagnaaDoor
open Go Go.RowKit
set_option linter.unusedVariables false
set_option linter.unusedSimpArgs false
set_option linter.unusedVariables false
set_option linter.unusedSimpArgs false

/-- Numbers of 64 bits as cells. -/
def nz (l : List Nat) : Array Value := ints .u64 (l.map fun (n : Nat) => (n : Int))
theorem nz_set (l : List Nat) (i x : Nat) : (nz l).setIfInBounds i (.int .u64 (x : Int)) = nz (l.set i x) := by
  unfold nz
  rw [ints_set, List.map_set]
theorem nz_get (l : List Nat) (i : Nat) (h : i < l.length) : (nz l)[i]? = some (.int .u64 ((l.getD i 0 : Nat) : Int)) := by
  unfold nz
  rw [ints_get _ _ _ (by rw [List.length_map]; exact h), List.getElem_map, List.getD_eq_getElem?_getD, List.getElem?_eq_getElem h]
  rfl
theorem and_low (d : Nat) (h : d < 18446744073709551616) : bits .and .u64 (d : Int) 4294967295 = ((d % 4294967296 : Nat) : Int) := by
  have := u64_and_nat d 4294967295 h (by decide)
  rw [show (4294967295 : Nat) = 2 ^ 32 - 1 by decide, Nat.and_two_pow_sub_one_eq_mod] at this
  exact this
/-- One round of add. -/
structure Add1 (d y d1 s t q1 q2 d2 : Nat) : Prop where
  a1 : bits .and .u64 (d : Int) 4294967295 = (d1 : Int)
  a2 : IntKind.u64.wrap ((y : Int) + (d1 : Int)) = (s : Int)
  a3 : bits .and .u64 (s : Int) 4294967295 = (t : Int)
  a4 : (d : Int) / 4294967296 = (q1 : Int)
  a5 : (s : Int) / 4294967296 = (q2 : Int)
  a6 : IntKind.u64.wrap ((q1 : Int) + (q2 : Int)) = (d2 : Int)
  b : d2 < 18446744073709551616
theorem Add1.of (d y : Nat) (h : d < 18446744073709551616) : Add1 d y (d % 4294967296) ((y + d % 4294967296) % 18446744073709551616) ((y + d % 4294967296) % 18446744073709551616 % 4294967296) (d / 4294967296) ((y + d % 4294967296) % 18446744073709551616 / 4294967296) ((d / 4294967296 + (y + d % 4294967296) % 18446744073709551616 / 4294967296) % 18446744073709551616) :=
  ⟨and_low d h, by rw [IntKind.wrap_u64]; rfl, and_low _ (Nat.mod_lt _ (by decide)), rfl, rfl, by rw [IntKind.wrap_u64]; rfl, Nat.mod_lt _ (by decide)⟩
theorem addF_next (k : Nat) (l : List Nat) (i c : Nat) (h : 0 < c) : addF (k + 1) l i c = addF k (l.set i ((l.getD i 0 + c % 4294967296) % 18446744073709551616 % 4294967296)) (i + 1) ((c / 4294967296 + (l.getD i 0 + c % 4294967296) % 18446744073709551616 / 4294967296) % 18446744073709551616) := by
  rw [addF, if_pos h]
theorem addF_stop (k : Nat) (l : List Nat) (i : Nat) : addF k l i 0 = l := by
  cases k with
  | zero => rfl
  | succ k => rw [addF, if_neg (by decide)]

set_option maxRecDepth 20000 in
set_option maxHeartbeats 2000000 in
theorem kadd_any (g n i c : Nat) (L : List Nat) (T : TypeId) (w : World) (hr : Row w g (nz L) T) (hn : L.length = n) (hn2 : n ≤ 100) (hi : i ≤ n) (hc : c < 18446744073709551616) :
    Calls Tryd.prog 107 #[.slice (some ⟨g, 0, none⟩) n n, .int .i64 (i : Int), .int .u64 (c : Int)] w fun e w' => e = .returned (.tuple #[]) ∧ Only g w w' ∧ Row w' g (nz (addF (n - i) L i c)) T := by
  obtain ⟨F, hF⟩ : ∃ F, addF (n - i) L i c = F := ⟨_, rfl⟩
  rw [hF]
  replace hF := Lib.hid hF
  replace hn := Lib.hid hn
  replace hc := Lib.hid hc
  replace hi := Lib.hid hi
  have hni : (n : Int) ≤ 100 := by omega
  go_enter Tryd.func107, Tryd.ntmps107
  go_wp2
  go_loopw [6, 7] (fun c i wr => ∃ (k j d : Nat) (M : List Nat), j + k = n ∧ i = .int .i64 j ∧ c = .int .u64 (d : Int) ∧ Hid (d < 18446744073709551616) ∧ Hid (M.length = n) ∧ Hid (addF k M j d = F) ∧ Only g w wr ∧ Row wr g (nz M) T) (fun _ i _ => n - (intOf i).toNat)
  case atStart => exact ⟨n - i, i, c, L, by have := hi.out; omega, rfl, rfl, hc, hn, hF, Only.refl _ _, hr⟩
  case round =>
    clear hF hn hc hi hr
    obtain ⟨k, j, d, M, hjk, rfl, rfl, HD, HM, HF, HN, R⟩ := hrel
    rcases Nat.eq_zero_or_pos k with h0 | h0
    · subst h0
      obtain rfl : j = n := by omega
      have he : M = F := HF.out
      go_wp2
      go_end0
      exact ⟨rfl, HN, he ▸ R⟩
    · obtain ⟨k, rfl⟩ : ∃ q, k = q + 1 := ⟨k - 1, by omega⟩
      have hlt : (j : Int) < (n : Int) := by omega
      rcases Nat.eq_zero_or_pos d with h1 | h1
      · subst h1
        have he : M = F := by rw [← HF.out, addF_stop]
        go_wp2
        go_end0
        exact ⟨rfl, HN, he ▸ R⟩
      · have h1i : (0 : Int) < (d : Int) := by omega
        have hnx := addF_next k M j d h1
        rw [HF.out] at hnx
        have ha := Add1.of d (M.getD j 0) HD.out
        have hcell := R.cell (nz_get M j (by rw [HM.out]; omega))
        have hfr := R.frozen j
        have R' := fun x : Nat => R.set j (.int .u64 (x : Int))
        have hlen : ∀ x, (M.set j x).length = n := fun x => by rw [List.length_set]; exact HM.out
        generalize M.getD j 0 = y at *
        generalize (d / 4294967296 + (y + d % 4294967296) % 18446744073709551616 / 4294967296) % 18446744073709551616 = d2 at *
        generalize (y + d % 4294967296) % 18446744073709551616 % 4294967296 = t at *
        generalize (y + d % 4294967296) % 18446744073709551616 / 4294967296 = q2 at *
        generalize (y + d % 4294967296) % 18446744073709551616 = s at *
        generalize d / 4294967296 = q1 at *
        generalize d % 4294967296 = d1 at *
        obtain ⟨a1, a2, a3, a4, a5, a6, b⟩ := ha
        replace b := Lib.hid b
        replace hnx := Lib.hid hnx
        have hl := Lib.hid (hlen t)
        have RR := Lib.hid (R' t)
        clear hlen R' R HF HD
        go_wp2
        go_roundw
        case rel =>
          refine ⟨k, j + 1, d2, M.set j t, by omega, by go_num, rfl, b, hl, Lib.hid hnx.out.symm, HN.trans (Only.set _ _ _ _), ?_⟩
          rw [← nz_set]
          exact RR.out
        case measure => simp [intOf]; omega

theorem info_u64 : (Tryd.prog.info? 66).map (fun i => (i.zero, i.size, i.bytes)) = some (some (.int .u64 0), 1, 8) := by kernel_rfl
theorem made_nz (n : Nat) : madeCells #[(.int .u64 0 : Value)] n = nz (List.replicate n 0) := by
  apply Array.ext
  · simp [madeCells, nz, ints]
  · intro i h1 h2
    simp [madeCells, nz, ints, Nat.mod_one]
theorem run_mk64 (n : Nat) (hn : n ≤ 1000) (w : World) : (Instr.makeSlice 63 (.int .i64 (n : Int)) (.int .i64 (n : Int))).run Tryd.prog w = .ok (.slice (some ⟨w.heap.size, 0, none⟩) n n) (w.alloc (.cells (nz (List.replicate n 0)) 66)) := by
  obtain ⟨i, hi0, hz, hsz, hby⟩ : ∃ i, Tryd.prog.info? 66 = some i ∧ i.zero = some (.int .u64 0) ∧ i.size = 1 ∧ i.bytes = 8 := by
    have hi := info_u64
    rcases hq : Tryd.prog.info? 66 with _ | i
    · rw [hq] at hi; cases hi
    · rw [hq] at hi
      simp only [Option.map_some, Option.some.injEq, Prod.mk.injEq] at hi
      exact ⟨i, rfl, hi.1, hi.2.1, hi.2.2⟩
  have := run_makeSlice (P := Tryd.prog) w 63 66 i (.int .u64 0) Tryd.underlying63 hi0 hz .i64 .i64 (n : Int) (n : Int) (by omega) (by omega) (by rw [hsz]; simp; omega) (by rw [hby]; omega) (by omega)
  rw [hsz, Nat.mul_one, Int.toNat_natCast, show (Value.int .u64 0).cells = #[.int .u64 0] from rfl, made_nz] at this
  exact this
theorem timesF_next (l : List Nat) (x k i : Nat) (h : l.length - (k + 1) = i) (out : List Nat) : timesF l x (k + 1) out = timesF l x k (addF (k + 2) (addF (k + 3) out i (l.getD i 0 * (x % 4294967296) % 18446744073709551616)) (i + 1) (l.getD i 0 * (x / 4294967296) % 18446744073709551616)) := by
  rw [timesF, h]
theorem mul_wrap (a b : Nat) : IntKind.u64.wrap ((a : Int) * (b : Int)) = ((a * b % 18446744073709551616 : Nat) : Int) := by rw [IntKind.wrap_u64]; rfl
/-- A slice of such numbers that stand in a row. -/
def RdN (w : World) (v : Value) (l : List Nat) : Prop := ∃ g T, v = .slice (some ⟨g, 0, none⟩) l.length l.length ∧ Row w g (nz l) T

set_option maxRecDepth 20000 in
set_option maxHeartbeats 4000000 in
theorem ktimes_any (v : Value) (l : List Nat) (x : Nat) (w : World) (hr : RdN w v l) (hn2 : l.length ≤ 90) (hx : x < 18446744073709551616) :
    Calls Tryd.prog 97 #[v, .int .u64 (x : Int)] w fun e w' => ∃ v', e = .returned v' ∧ RdN w' v' (timesL l x) ∧ Nx w w' := by
  obtain ⟨g, T, rfl, R⟩ := hr
  have HR := Lib.hid R
  have HF : Hid (timesF l x l.length (List.replicate (l.length + 2) 0) = timesL l x) := Lib.hid rfl
  have hmk := run_mk64 (l.length + 2) (by omega)
  have hlo := and_low x hx
  have hhi : (x : Int) / 4294967296 = ((x / 4294967296 : Nat) : Int) := rfl
  have HNX := Lib.hid (timesF_next l x)
  have HTL := Lib.hid (timesL_length l x)
  have HG := Lib.hid (fun i hi (wr : World) (N : Nx w wr) => (R.nx N).cell (nz_get l i hi))
  have hnb : (l.length : Int) ≤ 90 := by omega
  generalize timesL l x = F at *
  generalize x % 4294967296 = lo at *
  generalize x / 4294967296 = hi at *
  have hZL : Hid ((List.replicate (l.length + 2) 0 : List Nat).length = l.length + 2) := Lib.hid (List.length_replicate)
  generalize (List.replicate (l.length + 2) 0 : List Nat) = Z at *
  generalize hn : l.length = n at *
  have HLn := Lib.hid hn
  obtain ⟨m, hm⟩ : ∃ m, n + 2 = m := ⟨_, rfl⟩
  have hmi : (n : Int) + 2 = (m : Int) := by omega
  have hmb : (m : Int) ≤ 92 := by omega
  have HMN := Lib.hid hm
  rw [hm] at hmk HTL hZL
  clear hn R hx hm
  go_enter Tryd.func97, Tryd.ntmps97
  go_wp2_with fail
  have RZ := Row.new w (nz Z) 66 _ rfl
  have NZ := Lib.hid ((Nx.refl w).alloc (.cells (nz Z) 66))
  have RL := HR.out.nx NZ.out
  have HGL := Lib.hid HR.out.lt
  clear HR HG hmk
  generalize w.alloc (.cells (nz Z) 66) = W at *
  go_loopw [8] (fun i wr => ∃ (k j : Nat) (O : List Nat), j + k = n ∧ i = .int .i64 j ∧ Hid (O.length = m) ∧ Hid (timesF l x k O = F) ∧ Hid (Nx w wr) ∧ Row wr g (nz l) T ∧ Row wr w.heap.size (nz O) 66) (fun i _ => n - (intOf i).toNat)
  case atStart => exact ⟨n, 0, Z, by omega, rfl, hZL, HF, NZ, RL, RZ⟩
  case round =>
    clear hZL HF NZ RL RZ
    obtain ⟨k, j, O, hjk, rfl, HO, HF, HN, RL, RO⟩ := hrel
    rcases Nat.eq_zero_or_pos k with h0 | h0
    · subst h0
      obtain rfl : j = n := by omega
      have he : O = F := HF.out
      go_wp2
      go_ret
      subst he
      exact ⟨_, rfl, ⟨w.heap.size, 66, by rw [HO.out]; rfl, RO⟩, HN.out⟩
    · obtain ⟨k, rfl⟩ : ∃ q, k = q + 1 := ⟨k - 1, by omega⟩
      have hlt : (j : Int) < (n : Int) := by omega
      obtain ⟨j1, hj1⟩ : ∃ j1, j + 1 = j1 := ⟨_, rfl⟩
      have hj1i : (j : Int) + 1 = (j1 : Int) := by omega
      have hj1b : (j1 : Int) ≤ 92 := by omega
      have hnx := HNX.out k j (by omega) O
      rw [HF.out, hj1] at hnx
      have hm3 : m - j = k + 3 := by have := HMN.out; omega
      have hm2 : m - j1 = k + 2 := by have := HMN.out; omega
      have hjm : j ≤ m := by omega
      have hj1m : j1 ≤ m := by omega
      have hcell := RL.cell (nz_get l j (by rw [HLn.out]; omega))
      have hfr := RL.frozen j
      generalize l.getD j 0 = y at *
      have hp1 := mul_wrap y lo
      have hp2 := mul_wrap y hi
      have hpb1 := Lib.hid (Nat.mod_lt (y * lo) (by decide : 0 < 18446744073709551616))
      have hpb2 := Lib.hid (Nat.mod_lt (y * hi) (by decide : 0 < 18446744073709551616))
      generalize y * lo % 18446744073709551616 = p1 at *
      generalize y * hi % 18446744073709551616 = p2 at *
      have C1 := Lib.hid (kadd_any w.heap.size m j p1 O 66 wr RO HO.out (by omega) hjm hpb1.out)
      have hO1 := addF_length (k + 3) O j p1
      rw [hm3, HO.out] at *
      have C2 := Lib.hid (fun W r => kadd_any w.heap.size m j1 p2 (addF (k + 3) O j p1) 66 W r hO1 (by omega) hj1m hpb2.out)
      have hO2 := addF_length (k + 2) (addF (k + 3) O j p1) j1 p2
      rw [hm2, hO1] at *
      replace hO2 := Lib.hid hO2
      replace hnx := Lib.hid hnx
      have hne : Hid (g ≠ w.heap.size) := Lib.hid (by have := HGL.out; omega)
      have HJ := Lib.hid hj1
      have HJK := Lib.hid hjk
      clear hm3 hm2 hjm hj1m hO1 hj1 hjk HF RO
      generalize addF (k + 3) O j p1 = O1 at *
      generalize addF (k + 2) O1 j1 p2 = O2 at *
      go_wp2_with fail
      refine C1.out.mono ?_
      rintro e w1 ⟨rfl, o1, R1⟩
      have RL1 := RL.only o1 hne.out
      have hcell1 : w1.cell? ⟨g, j, none⟩ = some (.int .u64 (y : Int)) := by rw [← hcell]; unfold World.cell?; rw [show w1.heap[g]? = wr.heap[g]? from o1.2.2.2.2 g hne.out]
      have N1 := Lib.hid (HN.out.only o1 (Nat.le_refl _))
      have hfr1 := RL1.frozen j
      clear o1 HN hcell hfr RL
      go_wp2_with fail
      refine (C2.out _ R1).mono ?_
      rintro e w2 ⟨rfl, o2, R2⟩
      have RL2 := RL1.only o2 hne.out
      have N2 := Lib.hid (N1.out.only o2 (Nat.le_refl _))
      clear o2 N1 hcell1 hfr1 RL1
      go_wp2
      go_roundw
      case rel => exact ⟨k, j1, O2, by have := HJ.out; have := HJK.out; omega, by go_num, hO2, Lib.hid hnx.out.symm, N2, RL2, R2⟩
      case measure => have := HJ.out; simp [intOf]; omega
end Go.Proofs.YtjbeemoobmagnaaDoor
