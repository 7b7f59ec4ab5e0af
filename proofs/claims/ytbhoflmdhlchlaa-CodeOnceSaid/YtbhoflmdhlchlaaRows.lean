/-
  No cell of these rows narrows 'for every input' (looked for: loops, veiled, ifaces, maps, wideKeys, modest, calm, conditions, laid).
  DERIVED. THE GIVEN ROWS OF THIS SEAT. 11 by the template 'for every input the law returns true; each argument reads behind the call as it read before'; 0 by the template 'total and deterministic' (their statements: YtbhoflmdhlchlaaTotals.lean).
  GIVEN WITH THE SEED: the statements are not yours to turn. If you find one false, say at which input.
  Laid BY PROGRAM, IN A SANDBOX (cutbox-rows.mjs): the forced cells as the released guide's own fill.sh prints them over the translation 68d9d2c77bb69adf… (all of the seat's roots in one cut). By AI agents, Wed Nov 11 2026. No macro, syntax, notation, axiom, sorry.
-/
import Derived.Test.YtbhoflmdhlchlaaChecked
import GoSem.Claim
import GoSem.ClaimJoined
import GoSem.ClaimMapViews
import Derived.JoinedTies
import Derived.KernelRfl
namespace Go.Proofs.Ytbhoflmdhlchlaa
/- THE CELL 'sum', in the pinned program and in every row, IS THE sha256 OF THE DUMP (.gsa) THAT YtbhoflmdhlchlaaProg.lean LOADS. Nothing in Lean hashes anything: it is a label: what it is worth is what the hold of that sum in a sandbox is worth. -/
noncomputable def Try.pinned : Pinned := { name := "ytbhoflmdhlchlaa", sum := "68d9d2c77bb69adf861e9e5954cf254adf7ec08d4841e9cfe92767407a58bbe2", checked := Try.checked }
namespace Rows
def none {H : Type} : Left H := { results := [], args := [] }

/-- 'moneyerlaw11.CodePuts': WHATEVER THE INPUT: true; the input reads as it did. -/
def codePutsSpec : ChangeSpec := { name := "codePuts", fn := fun _ => fun
  | [d] => { results := [.lit (.bool true)], args := [d] }
  | _ => none }
def codePutsRow : OpenClaim := { program := "ytbhoflmdhlchlaa", sum := "68d9d2c77bb69adf861e9e5954cf254adf7ec08d4841e9cfe92767407a58bbe2", func := "moneyer/moneyerlaw11.CodePuts", spec := "codePuts", unfollowed := true, recurses := true, apart := false }
def CodePutsSaid : Prop := codePutsRow.holds Try.pinned (OpenSpec.ofChange codePutsSpec)

/-- ITS FALSE NEIGHBOUR: 'it returns false'. Refute it at one input. -/
def codePutsWrong : ChangeSpec := { name := "codePuts", fn := fun _ => fun
  | [d] => { results := [.lit (.bool false)], args := [d] }
  | _ => none }
def CodePutsWrongFalsely : Prop := codePutsRow.holds Try.pinned (OpenSpec.ofChange codePutsWrong)

/-- 'moneyerlaw11.CodeReads': WHATEVER THE INPUT: true; the input reads as it did. -/
def codeReadsSpec : ChangeSpec := { name := "codeReads", fn := fun _ => fun
  | [d] => { results := [.lit (.bool true)], args := [d] }
  | _ => none }
def codeReadsRow : OpenClaim := { program := "ytbhoflmdhlchlaa", sum := "68d9d2c77bb69adf861e9e5954cf254adf7ec08d4841e9cfe92767407a58bbe2", func := "moneyer/moneyerlaw11.CodeReads", spec := "codeReads", unfollowed := true, recurses := true, apart := false }
def CodeReadsSaid : Prop := codeReadsRow.holds Try.pinned (OpenSpec.ofChange codeReadsSpec)

/-- ITS FALSE NEIGHBOUR: 'it returns false'. Refute it at one input. -/
def codeReadsWrong : ChangeSpec := { name := "codeReads", fn := fun _ => fun
  | [d] => { results := [.lit (.bool false)], args := [d] }
  | _ => none }
def CodeReadsWrongFalsely : Prop := codeReadsRow.holds Try.pinned (OpenSpec.ofChange codeReadsWrong)

/-- 'moneyerlaw11.CodeBack': WHATEVER THE INPUT: true; the input reads as it did. -/
def codeBackSpec : ChangeSpec := { name := "codeBack", fn := fun _ => fun
  | [d] => { results := [.lit (.bool true)], args := [d] }
  | _ => none }
def codeBackRow : OpenClaim := { program := "ytbhoflmdhlchlaa", sum := "68d9d2c77bb69adf861e9e5954cf254adf7ec08d4841e9cfe92767407a58bbe2", func := "moneyer/moneyerlaw11.CodeBack", spec := "codeBack", unfollowed := true, recurses := true, apart := false }
def CodeBackSaid : Prop := codeBackRow.holds Try.pinned (OpenSpec.ofChange codeBackSpec)

/-- ITS FALSE NEIGHBOUR: 'it returns false'. Refute it at one input. -/
def codeBackWrong : ChangeSpec := { name := "codeBack", fn := fun _ => fun
  | [d] => { results := [.lit (.bool false)], args := [d] }
  | _ => none }
def CodeBackWrongFalsely : Prop := codeBackRow.holds Try.pinned (OpenSpec.ofChange codeBackWrong)

/-- 'moneyerlaw11.CodeOnce': WHATEVER THE INPUT: true; the input reads as it did. -/
def codeOnceSpec : ChangeSpec := { name := "codeOnce", fn := fun _ => fun
  | [d] => { results := [.lit (.bool true)], args := [d] }
  | _ => none }
def codeOnceRow : OpenClaim := { program := "ytbhoflmdhlchlaa", sum := "68d9d2c77bb69adf861e9e5954cf254adf7ec08d4841e9cfe92767407a58bbe2", func := "moneyer/moneyerlaw11.CodeOnce", spec := "codeOnce", unfollowed := true, recurses := true, apart := false }
def CodeOnceSaid : Prop := codeOnceRow.holds Try.pinned (OpenSpec.ofChange codeOnceSpec)

/-- ITS FALSE NEIGHBOUR: 'it returns false'. Refute it at one input. -/
def codeOnceWrong : ChangeSpec := { name := "codeOnce", fn := fun _ => fun
  | [d] => { results := [.lit (.bool false)], args := [d] }
  | _ => none }
def CodeOnceWrongFalsely : Prop := codeOnceRow.holds Try.pinned (OpenSpec.ofChange codeOnceWrong)

/-- 'moneyerlaw11.CodeJoin': WHATEVER THE INPUT: true; the input reads as it did. -/
def codeJoinSpec : ChangeSpec := { name := "codeJoin", fn := fun _ => fun
  | [d1, d2] => { results := [.lit (.bool true)], args := [d1, d2] }
  | _ => none }
def codeJoinRow : OpenClaim := { program := "ytbhoflmdhlchlaa", sum := "68d9d2c77bb69adf861e9e5954cf254adf7ec08d4841e9cfe92767407a58bbe2", func := "moneyer/moneyerlaw11.CodeJoin", spec := "codeJoin", unfollowed := true, recurses := true, apart := false }
def CodeJoinSaid : Prop := codeJoinRow.holds Try.pinned (OpenSpec.ofChange codeJoinSpec)

/-- ITS FALSE NEIGHBOUR: 'it returns false'. Refute it at one input. -/
def codeJoinWrong : ChangeSpec := { name := "codeJoin", fn := fun _ => fun
  | [d1, d2] => { results := [.lit (.bool false)], args := [d1, d2] }
  | _ => none }
def CodeJoinWrongFalsely : Prop := codeJoinRow.holds Try.pinned (OpenSpec.ofChange codeJoinWrong)

/-- 'moneyerlaw12.CellNumbers': WHATEVER THE INPUT: true; the input reads as it did. -/
def cellNumbersSpec : ChangeSpec := { name := "cellNumbers", fn := fun _ => fun
  | [d1, d2, d3] => { results := [.lit (.bool true)], args := [d1, d2, d3] }
  | _ => none }
def cellNumbersRow : OpenClaim := { program := "ytbhoflmdhlchlaa", sum := "68d9d2c77bb69adf861e9e5954cf254adf7ec08d4841e9cfe92767407a58bbe2", func := "moneyer/moneyerlaw12.CellNumbers", spec := "cellNumbers", unfollowed := true, recurses := true, apart := false }
def CellNumbersSaid : Prop := cellNumbersRow.holds Try.pinned (OpenSpec.ofChange cellNumbersSpec)

/-- ITS FALSE NEIGHBOUR: 'it returns false'. Refute it at one input. -/
def cellNumbersWrong : ChangeSpec := { name := "cellNumbers", fn := fun _ => fun
  | [d1, d2, d3] => { results := [.lit (.bool false)], args := [d1, d2, d3] }
  | _ => none }
def CellNumbersWrongFalsely : Prop := cellNumbersRow.holds Try.pinned (OpenSpec.ofChange cellNumbersWrong)

/-- 'moneyerlaw12.CellStacks': WHATEVER THE INPUT: true; the input reads as it did. -/
def cellStacksSpec : ChangeSpec := { name := "cellStacks", fn := fun _ => fun
  | [d1, d2, d3] => { results := [.lit (.bool true)], args := [d1, d2, d3] }
  | _ => none }
def cellStacksRow : OpenClaim := { program := "ytbhoflmdhlchlaa", sum := "68d9d2c77bb69adf861e9e5954cf254adf7ec08d4841e9cfe92767407a58bbe2", func := "moneyer/moneyerlaw12.CellStacks", spec := "cellStacks", unfollowed := true, recurses := true, apart := false }
def CellStacksSaid : Prop := cellStacksRow.holds Try.pinned (OpenSpec.ofChange cellStacksSpec)

/-- ITS FALSE NEIGHBOUR: 'it returns false'. Refute it at one input. -/
def cellStacksWrong : ChangeSpec := { name := "cellStacks", fn := fun _ => fun
  | [d1, d2, d3] => { results := [.lit (.bool false)], args := [d1, d2, d3] }
  | _ => none }
def CellStacksWrongFalsely : Prop := cellStacksRow.holds Try.pinned (OpenSpec.ofChange cellStacksWrong)

/-- 'moneyerlaw12.CellTwo': WHATEVER THE INPUT: true; the input reads as it did. -/
def cellTwoSpec : ChangeSpec := { name := "cellTwo", fn := fun _ => fun
  | [d1, d2, d3] => { results := [.lit (.bool true)], args := [d1, d2, d3] }
  | _ => none }
def cellTwoRow : OpenClaim := { program := "ytbhoflmdhlchlaa", sum := "68d9d2c77bb69adf861e9e5954cf254adf7ec08d4841e9cfe92767407a58bbe2", func := "moneyer/moneyerlaw12.CellTwo", spec := "cellTwo", unfollowed := true, recurses := true, apart := false }
def CellTwoSaid : Prop := cellTwoRow.holds Try.pinned (OpenSpec.ofChange cellTwoSpec)

/-- ITS FALSE NEIGHBOUR: 'it returns false'. Refute it at one input. -/
def cellTwoWrong : ChangeSpec := { name := "cellTwo", fn := fun _ => fun
  | [d1, d2, d3] => { results := [.lit (.bool false)], args := [d1, d2, d3] }
  | _ => none }
def CellTwoWrongFalsely : Prop := cellTwoRow.holds Try.pinned (OpenSpec.ofChange cellTwoWrong)

/-- 'moneyerlaw12.CellBack': WHATEVER THE INPUT: true; the input reads as it did. -/
def cellBackSpec : ChangeSpec := { name := "cellBack", fn := fun _ => fun
  | [d1, d2] => { results := [.lit (.bool true)], args := [d1, d2] }
  | _ => none }
def cellBackRow : OpenClaim := { program := "ytbhoflmdhlchlaa", sum := "68d9d2c77bb69adf861e9e5954cf254adf7ec08d4841e9cfe92767407a58bbe2", func := "moneyer/moneyerlaw12.CellBack", spec := "cellBack", unfollowed := true, recurses := true, apart := false }
def CellBackSaid : Prop := cellBackRow.holds Try.pinned (OpenSpec.ofChange cellBackSpec)

/-- ITS FALSE NEIGHBOUR: 'it returns false'. Refute it at one input. -/
def cellBackWrong : ChangeSpec := { name := "cellBack", fn := fun _ => fun
  | [d1, d2] => { results := [.lit (.bool false)], args := [d1, d2] }
  | _ => none }
def CellBackWrongFalsely : Prop := cellBackRow.holds Try.pinned (OpenSpec.ofChange cellBackWrong)

/-- 'moneyerlaw12.CellOrder': WHATEVER THE INPUT: true; the input reads as it did. -/
def cellOrderSpec : ChangeSpec := { name := "cellOrder", fn := fun _ => fun
  | [d1, d2] => { results := [.lit (.bool true)], args := [d1, d2] }
  | _ => none }
def cellOrderRow : OpenClaim := { program := "ytbhoflmdhlchlaa", sum := "68d9d2c77bb69adf861e9e5954cf254adf7ec08d4841e9cfe92767407a58bbe2", func := "moneyer/moneyerlaw12.CellOrder", spec := "cellOrder", unfollowed := true, recurses := true, apart := false }
def CellOrderSaid : Prop := cellOrderRow.holds Try.pinned (OpenSpec.ofChange cellOrderSpec)

/-- ITS FALSE NEIGHBOUR: 'it returns false'. Refute it at one input. -/
def cellOrderWrong : ChangeSpec := { name := "cellOrder", fn := fun _ => fun
  | [d1, d2] => { results := [.lit (.bool false)], args := [d1, d2] }
  | _ => none }
def CellOrderWrongFalsely : Prop := cellOrderRow.holds Try.pinned (OpenSpec.ofChange cellOrderWrong)

/-- 'moneyerlaw12.CellPops': WHATEVER THE INPUT: true; the input reads as it did. -/
def cellPopsSpec : ChangeSpec := { name := "cellPops", fn := fun _ => fun
  | [d1, d2, d3] => { results := [.lit (.bool true)], args := [d1, d2, d3] }
  | _ => none }
def cellPopsRow : OpenClaim := { program := "ytbhoflmdhlchlaa", sum := "68d9d2c77bb69adf861e9e5954cf254adf7ec08d4841e9cfe92767407a58bbe2", func := "moneyer/moneyerlaw12.CellPops", spec := "cellPops", unfollowed := true, recurses := true, apart := false }
def CellPopsSaid : Prop := cellPopsRow.holds Try.pinned (OpenSpec.ofChange cellPopsSpec)

/-- ITS FALSE NEIGHBOUR: 'it returns false'. Refute it at one input. -/
def cellPopsWrong : ChangeSpec := { name := "cellPops", fn := fun _ => fun
  | [d1, d2, d3] => { results := [.lit (.bool false)], args := [d1, d2, d3] }
  | _ => none }
def CellPopsWrongFalsely : Prop := cellPopsRow.holds Try.pinned (OpenSpec.ofChange cellPopsWrong)

/- THE SECOND FORM. 'bulk': how many values and letters a reading holds, each counted each time it is reached (what is shared counts as often as it is met; a slice's spare places count too). A statement '..UptoSaid' is the law's where the arguments, and the package variables that the reading takes, are together of bulk at most 1048576: NARROWER than '..Said'. Prove '..Said' where nothing that the law and all that it calls make is longer than what came in: it says more and counts as full. Else prove '..UptoSaid'. A law counts once. -/
mutual
def uptoBulk {H : Type} : DataW H → Nat
  | .lit (.string bytes) => bytes.length + 1
  | .lit _ => 1
  | .nil => 1
  | .ptr d => uptoBulk d + 1
  | .slice elems spare => uptoBulkAll elems + uptoBulkAll spare + 1
  | .agg parts => uptoBulkAll parts + 1
  | .iface _ d => uptoBulk d + 1
  | .map entries => uptoBulkEntries entries + 1
  | .held _ => 1
def uptoBulkAll {H : Type} : List (DataW H) → Nat
  | [] => 0
  | d :: r => uptoBulk d + uptoBulkAll r
def uptoBulkEntries {H : Type} : List (Lit × DataW H) → Nat
  | [] => 0
  | x :: r => uptoBulkEntry x + uptoBulkEntries r
def uptoBulkEntry {H : Type} : Lit × DataW H → Nat
  | (.string bytes, d) => bytes.length + uptoBulk d + 1
  | (_, d) => uptoBulk d + 1
 end
def uptoSmall : (H : Type) → List (DataW H) → Bool := fun _ ds => decide (uptoBulkAll ds ≤ 1048576)
def OpenSpec.upto (s : _root_.Go.ChangeSpec) : _root_.Go.OpenSpec := { _root_.Go.OpenSpec.ofChange s with cond := some uptoSmall }

/-- 'moneyerlaw11.CodePuts', WHERE WHAT IT READS IS OF BULK AT MOST 1048576: true; the input reads as it did. -/
def codePutsUptoRow : OpenClaim := { program := "ytbhoflmdhlchlaa", sum := "68d9d2c77bb69adf861e9e5954cf254adf7ec08d4841e9cfe92767407a58bbe2", func := "moneyer/moneyerlaw11.CodePuts", spec := "codePuts", unfollowed := true, recurses := true, apart := false, narrowed := true }
def CodePutsUptoSaid : Prop := codePutsUptoRow.holds Try.pinned (OpenSpec.upto codePutsSpec)

/-- 'moneyerlaw11.CodeReads', WHERE WHAT IT READS IS OF BULK AT MOST 1048576: true; the input reads as it did. -/
def codeReadsUptoRow : OpenClaim := { program := "ytbhoflmdhlchlaa", sum := "68d9d2c77bb69adf861e9e5954cf254adf7ec08d4841e9cfe92767407a58bbe2", func := "moneyer/moneyerlaw11.CodeReads", spec := "codeReads", unfollowed := true, recurses := true, apart := false, narrowed := true }
def CodeReadsUptoSaid : Prop := codeReadsUptoRow.holds Try.pinned (OpenSpec.upto codeReadsSpec)

/-- 'moneyerlaw11.CodeBack', WHERE WHAT IT READS IS OF BULK AT MOST 1048576: true; the input reads as it did. -/
def codeBackUptoRow : OpenClaim := { program := "ytbhoflmdhlchlaa", sum := "68d9d2c77bb69adf861e9e5954cf254adf7ec08d4841e9cfe92767407a58bbe2", func := "moneyer/moneyerlaw11.CodeBack", spec := "codeBack", unfollowed := true, recurses := true, apart := false, narrowed := true }
def CodeBackUptoSaid : Prop := codeBackUptoRow.holds Try.pinned (OpenSpec.upto codeBackSpec)

/-- 'moneyerlaw11.CodeOnce', WHERE WHAT IT READS IS OF BULK AT MOST 1048576: true; the input reads as it did. -/
def codeOnceUptoRow : OpenClaim := { program := "ytbhoflmdhlchlaa", sum := "68d9d2c77bb69adf861e9e5954cf254adf7ec08d4841e9cfe92767407a58bbe2", func := "moneyer/moneyerlaw11.CodeOnce", spec := "codeOnce", unfollowed := true, recurses := true, apart := false, narrowed := true }
def CodeOnceUptoSaid : Prop := codeOnceUptoRow.holds Try.pinned (OpenSpec.upto codeOnceSpec)

/-- 'moneyerlaw11.CodeJoin', WHERE WHAT IT READS IS OF BULK AT MOST 1048576: true; the input reads as it did. -/
def codeJoinUptoRow : OpenClaim := { program := "ytbhoflmdhlchlaa", sum := "68d9d2c77bb69adf861e9e5954cf254adf7ec08d4841e9cfe92767407a58bbe2", func := "moneyer/moneyerlaw11.CodeJoin", spec := "codeJoin", unfollowed := true, recurses := true, apart := false, narrowed := true }
def CodeJoinUptoSaid : Prop := codeJoinUptoRow.holds Try.pinned (OpenSpec.upto codeJoinSpec)

/-- 'moneyerlaw12.CellNumbers', WHERE WHAT IT READS IS OF BULK AT MOST 1048576: true; the input reads as it did. -/
def cellNumbersUptoRow : OpenClaim := { program := "ytbhoflmdhlchlaa", sum := "68d9d2c77bb69adf861e9e5954cf254adf7ec08d4841e9cfe92767407a58bbe2", func := "moneyer/moneyerlaw12.CellNumbers", spec := "cellNumbers", unfollowed := true, recurses := true, apart := false, narrowed := true }
def CellNumbersUptoSaid : Prop := cellNumbersUptoRow.holds Try.pinned (OpenSpec.upto cellNumbersSpec)

/-- 'moneyerlaw12.CellStacks', WHERE WHAT IT READS IS OF BULK AT MOST 1048576: true; the input reads as it did. -/
def cellStacksUptoRow : OpenClaim := { program := "ytbhoflmdhlchlaa", sum := "68d9d2c77bb69adf861e9e5954cf254adf7ec08d4841e9cfe92767407a58bbe2", func := "moneyer/moneyerlaw12.CellStacks", spec := "cellStacks", unfollowed := true, recurses := true, apart := false, narrowed := true }
def CellStacksUptoSaid : Prop := cellStacksUptoRow.holds Try.pinned (OpenSpec.upto cellStacksSpec)

/-- 'moneyerlaw12.CellTwo', WHERE WHAT IT READS IS OF BULK AT MOST 1048576: true; the input reads as it did. -/
def cellTwoUptoRow : OpenClaim := { program := "ytbhoflmdhlchlaa", sum := "68d9d2c77bb69adf861e9e5954cf254adf7ec08d4841e9cfe92767407a58bbe2", func := "moneyer/moneyerlaw12.CellTwo", spec := "cellTwo", unfollowed := true, recurses := true, apart := false, narrowed := true }
def CellTwoUptoSaid : Prop := cellTwoUptoRow.holds Try.pinned (OpenSpec.upto cellTwoSpec)

/-- 'moneyerlaw12.CellBack', WHERE WHAT IT READS IS OF BULK AT MOST 1048576: true; the input reads as it did. -/
def cellBackUptoRow : OpenClaim := { program := "ytbhoflmdhlchlaa", sum := "68d9d2c77bb69adf861e9e5954cf254adf7ec08d4841e9cfe92767407a58bbe2", func := "moneyer/moneyerlaw12.CellBack", spec := "cellBack", unfollowed := true, recurses := true, apart := false, narrowed := true }
def CellBackUptoSaid : Prop := cellBackUptoRow.holds Try.pinned (OpenSpec.upto cellBackSpec)

/-- 'moneyerlaw12.CellOrder', WHERE WHAT IT READS IS OF BULK AT MOST 1048576: true; the input reads as it did. -/
def cellOrderUptoRow : OpenClaim := { program := "ytbhoflmdhlchlaa", sum := "68d9d2c77bb69adf861e9e5954cf254adf7ec08d4841e9cfe92767407a58bbe2", func := "moneyer/moneyerlaw12.CellOrder", spec := "cellOrder", unfollowed := true, recurses := true, apart := false, narrowed := true }
def CellOrderUptoSaid : Prop := cellOrderUptoRow.holds Try.pinned (OpenSpec.upto cellOrderSpec)

/-- 'moneyerlaw12.CellPops', WHERE WHAT IT READS IS OF BULK AT MOST 1048576: true; the input reads as it did. -/
def cellPopsUptoRow : OpenClaim := { program := "ytbhoflmdhlchlaa", sum := "68d9d2c77bb69adf861e9e5954cf254adf7ec08d4841e9cfe92767407a58bbe2", func := "moneyer/moneyerlaw12.CellPops", spec := "cellPops", unfollowed := true, recurses := true, apart := false, narrowed := true }
def CellPopsUptoSaid : Prop := cellPopsUptoRow.holds Try.pinned (OpenSpec.upto cellPopsSpec)

end Rows
end Go.Proofs.Ytbhoflmdhlchlaa
