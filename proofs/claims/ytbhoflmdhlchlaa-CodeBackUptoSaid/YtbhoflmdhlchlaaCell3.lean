/- CONTRACTS OF LAYER 12: Number. -/
import Derived.Test.YtbhoflmdhlchlaaCell2
import Derived.Deep.QuietTactic
import Derived.BigQuiet
namespace Go.Proofs.Ytbhoflmdhlchlaa
open Go Go.RowKit
set_option linter.unusedVariables false
set_option linter.unusedSimpArgs false

theorem pow256_le {j : Nat} (h : j ≤ 8) : 256 ^ j ≤ 18446744073709551616 := by
  have : 256 ^ j ≤ 256 ^ 8 := Nat.pow_le_pow_right (by omega) h
  omega
theorem get_step (L : List UInt8) (k : Nat) (hk : k < L.length) (h8 : L.length ≤ 8) :
    bits .or .u64 ((num (L.take k) : Nat) : Int) (IntKind.u64.wrap (IntKind.u64.wrap (L[k].toNat : Int) * 2 ^ (8 * k))) = ((num (L.take (k + 1)) : Nat) : Int) := by
  have hx := L[k].toNat_lt
  have hl : (L.take k).length = k := by simp; omega
  have hn : num (L.take k) < 256 ^ k := by have := num_lt (L.take k); rwa [hl] at this
  have hp : 256 ^ (k + 1) ≤ 18446744073709551616 := pow256_le (by omega)
  have hp' : 256 ^ k * 256 ≤ 18446744073709551616 := by rwa [Nat.pow_succ] at hp
  have hxk : L[k].toNat * 256 ^ k < 18446744073709551616 := by
    have : L[k].toNat * 256 ^ k ≤ 255 * 256 ^ k := Nat.mul_le_mul_right _ (by omega)
    omega
  have e2 : (2 : Int) ^ (8 * k) = ((256 ^ k : Nat) : Int) := by rw [show (256 : Nat) ^ k = 2 ^ (8 * k) by rw [Nat.pow_mul]]; simp
  have e3 : IntKind.u64.wrap (IntKind.u64.wrap (L[k].toNat : Int) * 2 ^ (8 * k)) = ((L[k].toNat * 256 ^ k : Nat) : Int) := by
    have h1 : IntKind.u64.wrap (L[k].toNat : Int) = (L[k].toNat : Int) := by rw [IntKind.wrap_u64]; omega
    rw [h1, e2, ← Int.natCast_mul, IntKind.wrap_u64]
    omega
  rw [e3, u64_or_nat _ _ (by omega) hxk, or_num _ _ _ hn, List.take_succ_eq_append_getElem hk, num_snoc, hl]
theorem rget_step (L : List UInt8) (k : Nat) (hk : k < L.length) (h8 : L.length ≤ 8) :
    num (L.drop k) = L[k].toNat + 256 * num (L.drop (k + 1)) ∧ num (L.drop (k + 1)) < 72057594037927936 := by
  refine ⟨by rw [List.drop_eq_getElem_cons hk]; rfl, ?_⟩
  have h := num_lt (L.drop (k + 1))
  have h2 : 256 ^ (L.drop (k + 1)).length ≤ 256 ^ 7 := Nat.pow_le_pow_right (by omega) (by simp; omega)
  omega

theorem rget_val (L : List UInt8) (k : Nat) (hk : k < L.length) (h8 : L.length ≤ 8) (q : Nat) (hq : q = num (L.drop (k + 1))) :
    IntKind.u64.wrap (256 * (q : Int) + IntKind.u64.wrap (L[k].toNat : Int)) = ((num (L.drop k) : Nat) : Int) := by
  obtain ⟨h1, h2⟩ := rget_step L k hk h8
  have hx := L[k].toNat_lt
  rw [h1, ← hq, IntKind.wrap_u64, IntKind.wrap_u64]
  omega
theorem sext (l : List UInt8) (h : l.length ≤ 8) : wrap64 (IntKind.u64.wrap ((num l : Int) * 2 ^ (64 - 8 * l.length))) / 2 ^ (64 - 8 * l.length) = numI l := by
  have h1 := num8 l h
  unfold numI wrap64
  rw [u64_mod]
  generalize num l = u at *
  rcases len_cases h with e | e | e | e | e | e | e | e | e <;> rw [e] at h1 ⊢
  · have : u = 0 := by simp at h1; omega
    subst this
    decide
  all_goals (split <;> omega)
theorem bytesIn_of {w : World} {A : Option Addr} {l : List UInt8} (h : At w A l) : Lib.BytesIn w A l.length (l.map fun x => (x.toNat : Int)) := by
  rcases Nat.eq_zero_or_pos l.length with h0 | h0
  · rw [h0]; exact Lib.BytesIn.nil _ _ _
  · obtain ⟨b, o, rfl, hb, hc⟩ := h h0
    refine Lib.BytesIn.of_cells fun i hi => ?_
    rw [addr_add, hc i hi]
    simp [List.getD_eq_getElem?_getD, List.getElem?_eq_getElem hi]
theorem bytesOf_map (l : List UInt8) : Lib.bytesOf (l.map fun x => (x.toNat : Int)) = l := by
  unfold Lib.bytesOf
  rw [List.map_map]
  conv => rhs; rw [← List.map_id l]
  apply List.map_congr_left
  intro x _
  simp
theorem bequal_any (v1 v2 : Value) (l1 l2 : List UInt8) (w : World) (h1 : Rd w v1 l1) (h2 : Rd w v2 l2) :
    Calls Try.prog 50 #[v1, v2] w fun e w' => e = .returned (.bool (l1 == l2)) ∧ w = w' := by
  obtain ⟨A1, c1, rfl, _, _, ha1⟩ := h1
  obtain ⟨A2, c2, rfl, _, _, ha2⟩ := h2
  refine (Try.bytes_Equal_all A1 A2 l1.length c1 l2.length c2 _ _ w (by simp) (by simp) (bytesIn_of ha1) (bytesIn_of ha2)).mono fun e w' hh => ?_
  rw [bytesOf_map, bytesOf_map] at hh
  exact ⟨hh.1, hh.2.symm⟩

/-- What Number answers. -/
def numE (l : List UInt8) : Int := if l.length ≤ 8 ∧ bytesI (numI l) = l then 0 else 5
def numV (l : List UInt8) : Int := if l.length ≤ 8 ∧ bytesI (numI l) = l then numI l else 0
set_option maxHeartbeats 1000000 in
theorem cnumber_any (v : Value) (l : List UInt8) (w : World) (hr : Rd w v l) :
    Calls Try.prog 26 #[v] w fun e w' => e = .returned (.tuple #[.int .i64 (numV l), .int .i64 (numE l)]) ∧ Nx w w' := by
  have HR := Lib.hid hr
  obtain ⟨A, c, rfl, hc, hmx, ha⟩ := hr
  by_cases h8 : l.length ≤ 8
  · have HSX := Lib.hid (sext l h8)
    have HNB := Lib.hid (fun w => cbytes_any (numI l) w (numI_range l h8))
    have HE : Hid (numE l = if bytesI (numI l) = l then 0 else 5) := Lib.hid (by
      unfold numE
      by_cases hb : bytesI (numI l) = l
      · rw [if_pos ⟨h8, hb⟩, if_pos hb]
      · rw [if_neg (fun h => hb h.2), if_neg hb])
    have HV : Hid (numV l = if bytesI (numI l) = l then numI l else 0) := Lib.hid (by
      unfold numV
      by_cases hb : bytesI (numI l) = l
      · rw [if_pos ⟨h8, hb⟩, if_pos hb]
      · rw [if_neg (fun h => hb h.2), if_neg hb])
    generalize numE l = E at *
    generalize numV l = V at *
    generalize numI l = N at *
    generalize bytesI N = bs at *
    go_enter Try.func26, Try.ntmps26
    go_wp2_with fail
    go_loop [4, 14] (fun u j => ∃ k : Nat, k ≤ l.length ∧ j = .int .i64 k ∧ u = .int .u64 ((num (l.take k) : Nat) : Int)) (fun _ j => l.length - (intOf j).toNat)
    case atStart => exact ⟨0, by omega, rfl, rfl⟩
    case round =>
      obtain ⟨k, hk, rfl, rfl⟩ := hrel
      by_cases hlt : k < l.length
      · obtain ⟨b, o, rfl, hb, hcc⟩ := ha (by omega)
        have g := hcc k hlt
        clear hcc ha
        have hs64 : 8 * (k : Int) ≤ 64 := by omega
        have hs0 : 0 ≤ 8 * (k : Int) := by omega
        have HS := Lib.hid (get_step l k hlt h8)
        go_wp2_with fail
        refine ⟨⟨k + 1, by omega, by go_num, by rw [HS.out]⟩, by simp [intOf]; omega⟩
      · obtain rfl : k = l.length := by omega
        rw [List.take_of_length_le (Nat.le_refl _)]
        have hs64 : 8 * (l.length : Int) ≤ 64 := by omega
        have hs0 : 0 ≤ 8 * (l.length : Int) := by omega
        clear ha
        generalize num l = u at *
        go_wp2_with fail
        rw [HSX.out]
        refine (HNB.out w).mono ?_
        rintro e w1 ⟨v1, rfl, o1, n1⟩
        have N1 := Lib.hid n1
        have R1 := Lib.hid o1.rd
        clear o1 n1
        go_wp2_with fail
        refine (bequal_any v1 _ bs l w1 R1.out (HR.out.nx N1.out)).mono ?_
        rintro e w2 ⟨rfl, rfl⟩
        by_cases hb : bs = l
        · have hb2 : (bs == l) = true := by simp [hb]
          have HBB := Lib.hid hb
          clear hb
          go_wp2_with fail
          go_ret2
          exact ⟨by rw [HE.out, HV.out, if_pos HBB.out, if_pos HBB.out]; rfl, N1.out⟩
        · have hb2 : (bs == l) = false := by simp [hb]
          have HBB := Lib.hid hb
          clear hb
          go_wp2_with fail
          go_ret2
          exact ⟨by rw [HE.out, HV.out, if_neg HBB.out, if_neg HBB.out]; rfl, N1.out⟩
  · have d1 : decide ((8 : Int) < (l.length : Int)) = true := by simp; omega
    rw [show numV l = 0 from if_neg fun h => h8 h.1, show numE l = 5 from if_neg fun h => h8 h.1]
    clear h8
    go_enter Try.func26, Try.ntmps26
    go_wp2_with fail
    go_ret2
    exact ⟨rfl, Nx.refl _⟩
end Go.Proofs.Ytbhoflmdhlchlaa
