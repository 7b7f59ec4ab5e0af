/- TEXTS OF OUR OWN, IN ONE FILE. -/
import Derived.Test.YtpijehaciomkhaaDoorTs
section
namespace Go.Proofs.YtpijehaciomkhaaDoor
open Go Go.RowKit
set_option linter.unusedVariables false
set_option linter.unusedSimpArgs false

theorem rdX_0 : rdX [] = (txZ, 4) := by kernel_rfl
theorem rdX_6 : rdX [0, 0, 0, 0, 0, 0] = (txZ, 0) := by kernel_rfl
theorem rdX_7 : rdX [0, 0, 0, 0, 0, 0, 0] = (txZ, 5) := by kernel_rfl
theorem rdX_17 : rdX [17] = (txZ, 3) := by kernel_rfl
end Go.Proofs.YtpijehaciomkhaaDoor
end

section
namespace Go.Proofs.YtpijehaciomkhaaDoor
open Go Go.RowKit
set_option linter.unusedVariables false
set_option linter.unusedSimpArgs false
set_option linter.unusedVariables false
set_option linter.unusedSimpArgs false

theorem info_hash7 : (Tryd.prog.info? 23).map (fun i => (i.zero, i.size)) = some (some (.agg (hcel Z32)), 32) := by kernel_rfl
theorem mayT_z : mayT txZ = true := by kernel_rfl
end Go.Proofs.YtpijehaciomkhaaDoor
end

section
namespace Go.Proofs.YtpijehaciomkhaaDoor
open Go Go.RowKit
set_option linter.unusedVariables false
set_option linter.unusedSimpArgs false
set_option linter.unusedVariables false
set_option linter.unusedSimpArgs false

theorem tread_z (l : List UInt8) (E : Int) (hE : rdX l = (txZ, E)) (hl : l.length ≤ 140737488355328) (W : World) (v : Value) (h : Rd W v l) :
    Calls Tryd.prog 12 #[v] W fun e w' => ∃ A c B d, e = .returned (.tuple #[.agg #[.slice A 0 c, .slice B 0 d, .int .u32 0], .int .i64 E]) ∧ TxAt w' (.slice A 0 c) (.slice B 0 d) txZ ∧ Nx W w' := by
  have := tread_any v l W h hl
  rw [hE] at this
  refine this.mono ?_
  rintro e w' ⟨iv, ov, rfl, h1, h2⟩
  obtain ⟨A, c, rfl⟩ := h1.i.sl
  obtain ⟨B, d, rfl⟩ := h1.o.sl
  exact ⟨A, c, B, d, rfl, h1.at, h2⟩
theorem tput_z (w : World) : Calls Tryd.prog 11 #[.agg #[.slice none 0 0, .slice none 0 0, .int .u32 0]] w fun e w' => ∃ A c, e = .returned (.tuple #[.slice A 6 c, .int .i64 0]) ∧ Nx w w' := by
  have h := txput_any (.slice none 0 0) (.slice none 0 0) txZ w (txAt_z w).i (txAt_z w).o (txAt_z w).a (txAt_z w).g
  have e1 : ptE txZ = 0 := by kernel_rfl
  have e2 : (ptT txZ).length = 6 := by kernel_rfl
  rw [e1] at h
  refine h.mono ?_
  rintro e w' ⟨r, rfl, h1, h2⟩
  obtain ⟨A, c, rfl, -⟩ := h1.rd
  exact ⟨A, c, by rw [e2], h2⟩
theorem rd_17 (w : World) : Rd (w.alloc (.cells #[.int .u8 17] 5)) (.slice (some ⟨w.heap.size, 0, none⟩) 1 1) [17] := by
  refine ⟨_, _, rfl, Nat.le_refl _, by simp [maxLen], fun _ => ⟨w.heap.size, 0, rfl, by simp, fun j hj => ?_⟩⟩
  have : j = 0 := by simpa using hj
  subst this
  rw [World.cell?_alloc_at _ _ _ _ rfl]
  rfl
theorem rdX_z6 : rdX (zeros 6) = (txZ, 0) := by kernel_rfl
theorem rdX_z7 : rdX (zeros 7) = (txZ, 5) := by kernel_rfl
end Go.Proofs.YtpijehaciomkhaaDoor
end
