/- A NUMBER, A HASH THAT CAME IN, of our own. -/
import Derived.Test.YtpkopigiijiiiaaDoorArr
import Derived.Test.YtpkopigiijiiiaaDoorTa
namespace Go.Proofs.YtpkopigiijiiiaaDoor
open Go.ChangeShapes Go.WideShapes Go.ChangeAt Go.RowKit
set_option linter.unusedVariables false
set_option linter.unusedSimpArgs false

theorem u256_of (zs : List Int) (hz : zs.length = 4) (hw : ∀ z ∈ zs, (Lit.int .u64 z).wf = true) : ∃ n, n < top ∧ ints .u64 zs = #[.int .u64 (lim n 0 : Int), .int .u64 (lim n 1 : Int), .int .u64 (lim n 2 : Int), .int .u64 (lim n 3 : Int)] := by
  match zs, hz, hw with
  | [z0, z1, z2, z3], _, hw =>
    have h0 := wf_u64 (hw z0 (by simp))
    have h1 := wf_u64 (hw z1 (by simp))
    have h2 := wf_u64 (hw z2 (by simp))
    have h3 := wf_u64 (hw z3 (by simp))
    obtain ⟨x0, rfl⟩ := Int.eq_ofNat_of_zero_le h0.1
    obtain ⟨x1, rfl⟩ := Int.eq_ofNat_of_zero_le h1.1
    obtain ⟨x2, rfl⟩ := Int.eq_ofNat_of_zero_le h2.1
    obtain ⟨x3, rfl⟩ := Int.eq_ofNat_of_zero_le h3.1
    have l0 : x0 < 18446744073709551616 := by omega
    have l1 : x1 < 18446744073709551616 := by omega
    have l2 : x2 < 18446744073709551616 := by omega
    have l3 : x3 < 18446744073709551616 := by omega
    refine ⟨num4 x0 x1 x2 x3, num4_lt l0 l1 l2 l3, ?_⟩
    obtain ⟨e0, e1, e2, e3⟩ := num4_lim l0 l1 l2 l3
    rw [e0, e1, e2, e3]
    rfl
theorem hash_of (zs : List Int) (hz : zs.length = 32) (hw : ∀ z ∈ zs, (Lit.int .u8 z).wf = true) : ∃ l : List UInt8, l.length = 32 ∧ ints .u8 zs = hcel l := by
  refine ⟨zs.map fun z => UInt8.ofNat z.toNat, by simpa using hz, ?_⟩
  rw [hcel_ints, List.map_map]
  congr 1
  symm
  refine (List.map_congr_left (g := id) fun z hz => ?_).trans (List.map_id _)
  have := wf_u8 (hw z hz)
  simp only [Function.comp, id, UInt8.toNat_ofNat']
  omega
end Go.Proofs.YtpkopigiijiiiaaDoor
