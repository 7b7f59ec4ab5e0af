/- bytes.Compare, bytes.Equal: contracts over the bytes that are read, of our own. -/
import Derived.Test.YtnbonmkecmgphaaDoorTa
import Derived.Lib.Bytes
import Derived.Laws.BytesArg
import Derived.Lib.BytesEntry
import Derived.Lib.Bytealg
namespace Go.Proofs.YtnbonmkecmgphaaDoor
open Go Go.RowKit
set_option linter.unusedVariables false
set_option linter.unusedSimpArgs false
set_option linter.unusedVariables false
set_option linter.unusedSimpArgs false

def natsOf (l : List UInt8) : List Int := l.map fun x => (x.toNat : Int)
theorem natsOf_get {l : List UInt8} {i : Nat} (hi : i < l.length) : (natsOf l).getD i 0 = (l[i].toNat : Int) := by
  simp [natsOf, List.getD_eq_getElem?_getD, List.getElem?_eq_getElem hi]
theorem natsOf_back (l : List UInt8) : (natsOf l).map (fun n => UInt8.ofNat n.toNat) = l := by
  unfold natsOf
  rw [List.map_map]
  conv => rhs; rw [← List.map_id l]
  exact List.map_congr_left fun x _ => by simp
theorem conv_bytes {w : World} {v : Value} {l : List UInt8} (h : Rd w v l) : (convert 33 9 v).run Tryd.prog w = .ok (.string ⟨l.toArray⟩) w := by
  obtain ⟨A, c, rfl, _, _, ha⟩ := h
  rcases Nat.eq_zero_or_pos l.length with h0 | h0
  · obtain rfl := List.eq_nil_of_length_eq_zero h0
    rw [List.length_nil, run_convert_bytes_string w 33 9 5 _ 0 c Tryd.underlying33 Tryd.underlying5 Tryd.underlying9]
    cases A <;> simp [Conv.bytesToString, loadCells]
    all_goals rfl
  · obtain ⟨b, o, rfl, hb, hc⟩ := ha h0
    have := run_convert_bytes_arg (P := Tryd.prog) w 33 5 Tryd.underlying33 Tryd.underlying5 b o l.length c (natsOf l) (by simp [natsOf]) (fun i hi => by rw [hc i hi, natsOf_get hi]) 9 Tryd.underlying9
    rw [this]
    unfold strOfNums
    rw [natsOf_back]
theorem run_bytesOf_rd {P : Program} {w : World} {v : Value} {l : List UInt8} (h : Rd w v l) : (Extern.Bytes.bytesOf v).run P w = .ok ⟨l.toArray⟩ w := by
  obtain ⟨A, c, rfl, _, _, ha⟩ := h
  rcases Nat.eq_zero_or_pos l.length with h0 | h0
  · obtain rfl := List.eq_nil_of_length_eq_zero h0
    cases A <;> simp [Extern.Bytes.bytesOf, Extern.Bytes.loadBytes]
    all_goals rfl
  · obtain ⟨b, o, rfl, hb, hc⟩ := ha h0
    have hl := Lib.run_loadBytesX (P := P) w (natsOf l) ⟨b, o, none⟩ .empty (fun j x hj => by
      have hjl : j < l.length := by
        have := (List.getElem?_eq_some_iff.1 hj).1
        simpa [natsOf] using this
      rw [addr_add, hc j hjl]
      have : (natsOf l)[j]? = some (l[j].toNat : Int) := by simp [natsOf, List.getElem?_eq_getElem hjl]
      rw [this] at hj
      injection hj with hj
      rw [← hj])
    have hlen : (natsOf l).length = l.length := by simp [natsOf]
    rw [hlen] at hl
    simp only [Extern.Bytes.bytesOf, hl]
    have e : Lib.bytesOf (natsOf l) = l := natsOf_back l
    rw [e]
    congr 1
    apply ByteArray.ext
    show (#[] : Array UInt8) ++ l.toArray = l.toArray
    simp
theorem run_compare_rd {P : Program} {w : World} {v1 v2 : Value} {l1 l2 : List UInt8} (h1 : Rd w v1 l1) (h2 : Rd w v2 l2) : (Extern.BytealgCompare.compare #[v1, v2]).run P w = .ok (.int .i64 (Lib.compareBytes l1 l2)) w := by
  change Sem.run P (do pure (goInt (Extern.BytealgCompare.cmp (← Extern.Bytes.bytesOf v1) (← Extern.Bytes.bytesOf v2)))) w = _
  simp only [Sem.run_bind, Sem.run_pure, Result.andThen, run_bytesOf_rd h1, run_bytesOf_rd h2]
  rw [Lib.cmp_eq]
  rfl

theorem bequal_any (v1 v2 : Value) (l1 l2 : List UInt8) (w : World) (h1 : Rd w v1 l1) (h2 : Rd w v2 l2) :
    Calls Tryd.prog 89 #[v1, v2] w fun e w' => e = .returned (.bool (l1 == l2)) ∧ Nx w w' := by
  have hc1 := conv_bytes h1
  have hc2 := conv_bytes h2
  obtain ⟨A1, c1, rfl, -, -, -⟩ := h1
  obtain ⟨A2, c2, rfl, -, -, -⟩ := h2
  go_enter Tryd.func89, Tryd.ntmps89
  go_wp2_with fail
  go_ret
  exact ⟨rfl, Nx.refl _⟩
end Go.Proofs.YtnbonmkecmgphaaDoor
