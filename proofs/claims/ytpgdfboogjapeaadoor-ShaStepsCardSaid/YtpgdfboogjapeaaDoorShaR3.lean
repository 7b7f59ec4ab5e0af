/- THE DOCUMENT'S LAYER 2: New, List, Sum of a hasher. -/
import Derived.Test.YtpgdfboogjapeaaDoorShaR2
import Derived.Test.YtpgdfboogjapeaaDoorPart
namespace Go.Proofs.YtpgdfboogjapeaaDoor
open Go.RowKit
set_option linter.unusedVariables false
set_option linter.unusedSimpArgs false

theorem Row.bl {w w' : World} {g B : Nat} {cs : Array Value} {t : TypeId} (h : Row w g cs t) (k : Below B w w') (hg : g < B) : Row w' g cs t := by
  unfold Row
  rw [k.block g hg]; exact h

def hasL : List Int := beginS.list ++ kL
/-- A hasher with the constants. -/
def Has (w : World) (g : Nat) : Prop := Row w g (ints .u32 hasL) 44
theorem Has.nx {w w' : World} {g : Nat} (h : Has w g) (k : Nx w w') : Has w' g := Row.nx h k
theorem Has.begin {w : World} {g : Nat} (h : Has w g) : ∀ j v, (ints .u32 beginS.list)[j]? = some v → w.cell? ⟨g, 0 + j, none⟩ = some v := by
  intro j v hv
  rw [Nat.zero_add]
  refine Row.cell h ?_
  have hj : j < beginS.list.length := by
    have := (Array.getElem?_eq_some_iff.1 hv).1
    rwa [ints_size] at this
  rw [ints_get .u32 _ j hj] at hv
  rw [ints_get .u32 hasL j (by unfold hasL; rw [List.length_append]; omega), ← hv]
  congr 2
  unfold hasL
  rw [List.getElem_append_left hj]
theorem Has.k {w : World} {g : Nat} (h : Has w g) : ∀ j v, (ints .u32 kL)[j]? = some v → w.cell? ⟨g, 8 + j, none⟩ = some v := by
  intro j v hv
  refine Row.cell h ?_
  have hj : j < kL.length := by
    have := (Array.getElem?_eq_some_iff.1 hv).1
    rwa [ints_size] at this
  have h8 : beginS.list.length = 8 := rfl
  rw [ints_get .u32 _ j hj] at hv
  rw [ints_get .u32 hasL (8 + j) (by unfold hasL; rw [List.length_append]; omega), ← hv]
  congr 2
  unfold hasL
  rw [List.getElem_append_right (by omega)]
  congr 1
  omega

set_option maxRecDepth 100000 in
set_option maxHeartbeats 1000000 in
theorem new_any (w : World) :
    Calls Tryd.prog 8 #[] w fun e w' => ∃ g, e = .returned (.pointer (some ⟨g, 0, none⟩)) ∧ w.heap.size ≤ g ∧ Has w' g ∧ Nx w w' := by
  go_enter Tryd.func8, Tryd.ntmps8
  go_wp2_with (first | (refine wpList_val (some 2) rfl rfl (.agg (ints .u32 kL)) ?_ ?_; (focus kernel_rfl)) | (refine wpList_val (some 3) rfl rfl (.agg (ints .u32 hasL)) ?_ ?_; (focus kernel_rfl)))
  go_ret
  exact ⟨w.heap.size, rfl, Nat.le_refl _, Row.new _ _ _ _ rfl, (Nx.refl w).alloc _⟩

set_option maxHeartbeats 1000000 in
theorem rlist_any (l : List UInt8) (w : World) (hl : l.length = 32) :
    Calls Tryd.prog 33 #[.agg (hcel l)] w fun e w' => ∃ v, e = .returned v ∧ Own w.heap.size w' v l ∧ Nx w w' := by
  have HL := Lib.hid hl
  have hall : ∀ i (h : i < l.length), (hcel l)[i]? = some (bv l[i]) := hcel_get l
  replace hall := Lib.hid hall
  clear hl
  go_enter Tryd.func33, Tryd.ntmps33
  go_wp2_with fail
  have R0 := Row.new w (hcel l) 24 _ rfl
  have N0 := Lib.hid ((Nx.refl w).alloc (.cells (hcel l) 24))
  have hsz : w.heap.size < (w.alloc (.cells (hcel l) 24)).heap.size := by rw [alloc_size]; omega
  generalize w.alloc (.cells (hcel l) 24) = W at *
  go_loopw [3, 4] (fun u i wr => ∃ k : Nat, k ≤ 32 ∧ i = .int .i64 k ∧ Own (w.heap.size + 1) wr u (l.take k) ∧ Row wr w.heap.size (hcel l) 24 ∧ Hid (Nx w wr)) (fun _ i _ => 32 - (intOf i).toNat)
  case atStart => exact ⟨0, by omega, rfl, by rw [List.take_zero]; exact Own.nil _ _, R0, N0⟩
  case round =>
    clear N0 R0 hsz
    obtain ⟨k, hk, rfl, hown, R, HN⟩ := hrel
    by_cases hlt : k < 32
    · have hkl : k < l.length := by rw [HL.out]; exact hlt
      have c1 := R.cell (hall.out k hkl)
      have HT := Lib.hid (List.take_succ_eq_append_getElem hkl)
      have hk32 : (k : Int) < 32 := by omega
      have HLL : Hid ((l.take k).length ≤ 32) := Lib.hid (by rw [List.length_take]; omega)
      replace hkl := Lib.hid hkl
      have HNG : Hid (w.heap.size < wr.heap.size) := Lib.hid R.lt
      go_wp2_with (at_builtin; refine wpList_app rfl (.tmp 9) (.tmp 13) _ rfl Tryd.underlying22 info_u8s (w.heap.size + 1) _ (.slice (some ⟨wr.heap.size, 0, none⟩) 1 1) (l.take k) [l[k]'(hkl.out)] rfl rfl (hown.alloc _) (Rd.one _ _ _ _ rfl) ?c2 ?c3 ?_)
      case c2 => have := HLL.out; simp only [List.length_singleton]; omega
      case c3 => have := HNG.out; simp; omega
      intro v' w' hown' hb' _
      have HNN := Lib.hid ((HN.out.alloc _).app (hb'.mono (by omega)))
      have RR := (R.alloc (.cells #[bv (l[k]'(hkl.out))] 5)).bl hb' (by omega)
      have HO2 := Lib.hid hown'
      clear hown' hown
      go_wp2
      go_roundw
      case rel => exact ⟨k + 1, by omega, by go_num, by first | exact HO2.out | (rw [HT.out]; exact HO2.out), RR, HNN⟩
      case measure => simp [intOf]; omega
    · obtain rfl : k = 32 := by omega
      rw [List.take_of_length_le (by rw [HL.out]; exact Nat.le_refl _)] at hown
      go_wp2
      go_ret
      exact ⟨_, rfl, hown.mono (by omega), HN.out⟩
end Go.Proofs.YtpgdfboogjapeaaDoor
