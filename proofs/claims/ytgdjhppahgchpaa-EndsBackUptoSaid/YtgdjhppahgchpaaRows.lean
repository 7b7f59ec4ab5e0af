/-
  No cell of these rows narrows 'for every input' (looked for: loops, veiled, ifaces, maps, wideKeys, modest, calm, conditions, laid).
  DERIVED. THE GIVEN ROWS OF THIS SEAT. 5 by the template 'for every input the law returns true; each argument reads behind the call as it read before'; 0 by the template 'total and deterministic' (their statements: YtgdjhppahgchpaaTotals.lean).
  GIVEN WITH THE SEED: the statements are not yours to turn. If you find one false, say at which input.
  Laid BY PROGRAM, IN A SANDBOX (cutbox-rows.mjs): the forced cells as the released guide's own fill.sh prints them over the translation 6441bd7d3c942479… (all of the seat's roots in one cut). By AI agents, Wed Nov 11 2026. No macro, syntax, notation, axiom, sorry.
-/
import Derived.Test.YtgdjhppahgchpaaChecked
import GoSem.Claim
import GoSem.ClaimJoined
import GoSem.ClaimMapViews
import Derived.JoinedTies
import Derived.KernelRfl
namespace Go.Proofs.Ytgdjhppahgchpaa
/- THE CELL 'sum', in the pinned program and in every row, IS THE sha256 OF THE DUMP (.gsa) THAT YtgdjhppahgchpaaProg.lean LOADS. Nothing in Lean hashes anything: it is a label: what it is worth is what the hold of that sum in a sandbox is worth. -/
noncomputable def Try.pinned : Pinned := { name := "ytgdjhppahgchpaa", sum := "6441bd7d3c942479f86292380dad5e5bbc71a8a154cffc4cfee19d258a3f4699", checked := Try.checked }
namespace Rows
def none {H : Type} : Left H := { results := [], args := [] }

/-- 'moneyerlaw01.EndsNumbers': WHATEVER THE INPUT: true; the input reads as it did. -/
def endsNumbersSpec : ChangeSpec := { name := "endsNumbers", fn := fun _ => fun
  | [d1, d2, d3, d4, d5] => { results := [.lit (.bool true)], args := [d1, d2, d3, d4, d5] }
  | _ => none }
def endsNumbersRow : OpenClaim := { program := "ytgdjhppahgchpaa", sum := "6441bd7d3c942479f86292380dad5e5bbc71a8a154cffc4cfee19d258a3f4699", func := "moneyer/moneyerlaw01.EndsNumbers", spec := "endsNumbers", apart := false }
def EndsNumbersSaid : Prop := endsNumbersRow.holds Try.pinned (OpenSpec.ofChange endsNumbersSpec)

/-- ITS FALSE NEIGHBOUR: 'it returns false'. Refute it at one input. -/
def endsNumbersWrong : ChangeSpec := { name := "endsNumbers", fn := fun _ => fun
  | [d1, d2, d3, d4, d5] => { results := [.lit (.bool false)], args := [d1, d2, d3, d4, d5] }
  | _ => none }
def EndsNumbersWrongFalsely : Prop := endsNumbersRow.holds Try.pinned (OpenSpec.ofChange endsNumbersWrong)

/-- 'moneyerlaw01.EndsRows': WHATEVER THE INPUT: true; the input reads as it did. -/
def endsRowsSpec : ChangeSpec := { name := "endsRows", fn := fun _ => fun
  | [d1, d2, d3, d4] => { results := [.lit (.bool true)], args := [d1, d2, d3, d4] }
  | _ => none }
def endsRowsRow : OpenClaim := { program := "ytgdjhppahgchpaa", sum := "6441bd7d3c942479f86292380dad5e5bbc71a8a154cffc4cfee19d258a3f4699", func := "moneyer/moneyerlaw01.EndsRows", spec := "endsRows", apart := false }
def EndsRowsSaid : Prop := endsRowsRow.holds Try.pinned (OpenSpec.ofChange endsRowsSpec)

/-- ITS FALSE NEIGHBOUR: 'it returns false'. Refute it at one input. -/
def endsRowsWrong : ChangeSpec := { name := "endsRows", fn := fun _ => fun
  | [d1, d2, d3, d4] => { results := [.lit (.bool false)], args := [d1, d2, d3, d4] }
  | _ => none }
def EndsRowsWrongFalsely : Prop := endsRowsRow.holds Try.pinned (OpenSpec.ofChange endsRowsWrong)

/-- 'moneyerlaw01.EndsBack': WHATEVER THE INPUT: true; the input reads as it did. -/
def endsBackSpec : ChangeSpec := { name := "endsBack", fn := fun _ => fun
  | [d1, d2, d3, d4, d5] => { results := [.lit (.bool true)], args := [d1, d2, d3, d4, d5] }
  | _ => none }
def endsBackRow : OpenClaim := { program := "ytgdjhppahgchpaa", sum := "6441bd7d3c942479f86292380dad5e5bbc71a8a154cffc4cfee19d258a3f4699", func := "moneyer/moneyerlaw01.EndsBack", spec := "endsBack", apart := false }
def EndsBackSaid : Prop := endsBackRow.holds Try.pinned (OpenSpec.ofChange endsBackSpec)

/-- ITS FALSE NEIGHBOUR: 'it returns false'. Refute it at one input. -/
def endsBackWrong : ChangeSpec := { name := "endsBack", fn := fun _ => fun
  | [d1, d2, d3, d4, d5] => { results := [.lit (.bool false)], args := [d1, d2, d3, d4, d5] }
  | _ => none }
def EndsBackWrongFalsely : Prop := endsBackRow.holds Try.pinned (OpenSpec.ofChange endsBackWrong)

/-- 'moneyerlaw01.EndsOne': WHATEVER THE INPUT: true; the input reads as it did. -/
def endsOneSpec : ChangeSpec := { name := "endsOne", fn := fun _ => fun
  | [d1, d2, d3] => { results := [.lit (.bool true)], args := [d1, d2, d3] }
  | _ => none }
def endsOneRow : OpenClaim := { program := "ytgdjhppahgchpaa", sum := "6441bd7d3c942479f86292380dad5e5bbc71a8a154cffc4cfee19d258a3f4699", func := "moneyer/moneyerlaw01.EndsOne", spec := "endsOne", apart := false }
def EndsOneSaid : Prop := endsOneRow.holds Try.pinned (OpenSpec.ofChange endsOneSpec)

/-- ITS FALSE NEIGHBOUR: 'it returns false'. Refute it at one input. -/
def endsOneWrong : ChangeSpec := { name := "endsOne", fn := fun _ => fun
  | [d1, d2, d3] => { results := [.lit (.bool false)], args := [d1, d2, d3] }
  | _ => none }
def EndsOneWrongFalsely : Prop := endsOneRow.holds Try.pinned (OpenSpec.ofChange endsOneWrong)

/-- 'moneyerlaw01.EndsFresh': WHATEVER THE INPUT: true; the input reads as it did. -/
def endsFreshSpec : ChangeSpec := { name := "endsFresh", fn := fun _ => fun
  | [d1, d2, d3] => { results := [.lit (.bool true)], args := [d1, d2, d3] }
  | _ => none }
def endsFreshRow : OpenClaim := { program := "ytgdjhppahgchpaa", sum := "6441bd7d3c942479f86292380dad5e5bbc71a8a154cffc4cfee19d258a3f4699", func := "moneyer/moneyerlaw01.EndsFresh", spec := "endsFresh", apart := false }
def EndsFreshSaid : Prop := endsFreshRow.holds Try.pinned (OpenSpec.ofChange endsFreshSpec)

/-- ITS FALSE NEIGHBOUR: 'it returns false'. Refute it at one input. -/
def endsFreshWrong : ChangeSpec := { name := "endsFresh", fn := fun _ => fun
  | [d1, d2, d3] => { results := [.lit (.bool false)], args := [d1, d2, d3] }
  | _ => none }
def EndsFreshWrongFalsely : Prop := endsFreshRow.holds Try.pinned (OpenSpec.ofChange endsFreshWrong)

/- THE SECOND FORM. 'bulk': how many values and letters a reading holds, each counted each time it is reached (what is shared counts as often as it is met; a slice's spare places count too). A statement '..UptoSaid' is the law's where the arguments, and the package variables that the reading takes, are together of bulk at most 1048576: NARROWER than '..Said'. Prove '..Said' where nothing that the law and all that it calls make is longer than what came in: it says more and counts as full. Else prove '..UptoSaid'. A law counts once. -/
mutual
def uptoBulk {H : Type} : DataW H → Nat
  | .lit (.string bytes) => bytes.length + 1
  | .lit _ => 1
  | .nil => 1
  | .ptr d => uptoBulk d + 1
  | .slice elems spare => uptoBulkAll elems + uptoBulkAll spare + 1
  | .agg parts => uptoBulkAll parts + 1
  | .iface _ d => uptoBulk d + 1
  | .map entries => uptoBulkEntries entries + 1
  | .held _ => 1
def uptoBulkAll {H : Type} : List (DataW H) → Nat
  | [] => 0
  | d :: r => uptoBulk d + uptoBulkAll r
def uptoBulkEntries {H : Type} : List (Lit × DataW H) → Nat
  | [] => 0
  | x :: r => uptoBulkEntry x + uptoBulkEntries r
def uptoBulkEntry {H : Type} : Lit × DataW H → Nat
  | (.string bytes, d) => bytes.length + uptoBulk d + 1
  | (_, d) => uptoBulk d + 1
 end
def uptoSmall : (H : Type) → List (DataW H) → Bool := fun _ ds => decide (uptoBulkAll ds ≤ 1048576)
def OpenSpec.upto (s : _root_.Go.ChangeSpec) : _root_.Go.OpenSpec := { _root_.Go.OpenSpec.ofChange s with cond := some uptoSmall }

/-- 'moneyerlaw01.EndsNumbers', WHERE WHAT IT READS IS OF BULK AT MOST 1048576: true; the input reads as it did. -/
def endsNumbersUptoRow : OpenClaim := { program := "ytgdjhppahgchpaa", sum := "6441bd7d3c942479f86292380dad5e5bbc71a8a154cffc4cfee19d258a3f4699", func := "moneyer/moneyerlaw01.EndsNumbers", spec := "endsNumbers", apart := false, narrowed := true }
def EndsNumbersUptoSaid : Prop := endsNumbersUptoRow.holds Try.pinned (OpenSpec.upto endsNumbersSpec)

/-- 'moneyerlaw01.EndsRows', WHERE WHAT IT READS IS OF BULK AT MOST 1048576: true; the input reads as it did. -/
def endsRowsUptoRow : OpenClaim := { program := "ytgdjhppahgchpaa", sum := "6441bd7d3c942479f86292380dad5e5bbc71a8a154cffc4cfee19d258a3f4699", func := "moneyer/moneyerlaw01.EndsRows", spec := "endsRows", apart := false, narrowed := true }
def EndsRowsUptoSaid : Prop := endsRowsUptoRow.holds Try.pinned (OpenSpec.upto endsRowsSpec)

/-- 'moneyerlaw01.EndsBack', WHERE WHAT IT READS IS OF BULK AT MOST 1048576: true; the input reads as it did. -/
def endsBackUptoRow : OpenClaim := { program := "ytgdjhppahgchpaa", sum := "6441bd7d3c942479f86292380dad5e5bbc71a8a154cffc4cfee19d258a3f4699", func := "moneyer/moneyerlaw01.EndsBack", spec := "endsBack", apart := false, narrowed := true }
def EndsBackUptoSaid : Prop := endsBackUptoRow.holds Try.pinned (OpenSpec.upto endsBackSpec)

/-- 'moneyerlaw01.EndsOne', WHERE WHAT IT READS IS OF BULK AT MOST 1048576: true; the input reads as it did. -/
def endsOneUptoRow : OpenClaim := { program := "ytgdjhppahgchpaa", sum := "6441bd7d3c942479f86292380dad5e5bbc71a8a154cffc4cfee19d258a3f4699", func := "moneyer/moneyerlaw01.EndsOne", spec := "endsOne", apart := false, narrowed := true }
def EndsOneUptoSaid : Prop := endsOneUptoRow.holds Try.pinned (OpenSpec.upto endsOneSpec)

/-- 'moneyerlaw01.EndsFresh', WHERE WHAT IT READS IS OF BULK AT MOST 1048576: true; the input reads as it did. -/
def endsFreshUptoRow : OpenClaim := { program := "ytgdjhppahgchpaa", sum := "6441bd7d3c942479f86292380dad5e5bbc71a8a154cffc4cfee19d258a3f4699", func := "moneyer/moneyerlaw01.EndsFresh", spec := "endsFresh", apart := false, narrowed := true }
def EndsFreshUptoSaid : Prop := endsFreshUptoRow.holds Try.pinned (OpenSpec.upto endsFreshSpec)

end Rows
end Go.Proofs.Ytgdjhppahgchpaa
