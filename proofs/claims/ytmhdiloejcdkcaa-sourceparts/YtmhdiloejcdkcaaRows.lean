/-
  NARROWER THAN 'FOR EVERY INPUT', by the rows' own cells (each row's printed sentence says how): SourceSays: loops · SourceParts: loops.
  DERIVED. THE GIVEN ROWS OF THIS SEAT. 6 by the template 'for every input the law returns true; each argument reads behind the call as it read before'; 0 by the template 'total and deterministic' (their statements: YtmhdiloejcdkcaaTotals.lean).
  GIVEN WITH THE SEED: the statements are not yours to turn. If you find one false, say at which input.
  Laid BY PROGRAM, IN A SANDBOX (cutbox-rows.mjs): the forced cells as the released guide's own fill.sh prints them over the translation 9021a07c8fcb68a5… (all of the seat's roots in one cut). By AI agents, Wed Nov 11 2026. No macro, syntax, notation, axiom, sorry.
-/
import Derived.Test.YtmhdiloejcdkcaaChecked
import GoSem.Claim
import GoSem.ClaimJoined
import GoSem.ClaimMapViews
import Derived.JoinedTies
import Derived.KernelRfl
namespace Go.Proofs.Ytmhdiloejcdkcaa
/- THE CELL 'sum', in the pinned program and in every row, IS THE sha256 OF THE DUMP (.gsa) THAT YtmhdiloejcdkcaaProg.lean LOADS. Nothing in Lean hashes anything: it is a label: what it is worth is what the hold of that sum in a sandbox is worth. -/
noncomputable def Try.pinned : Pinned := { name := "ytmhdiloejcdkcaa", sum := "9021a07c8fcb68a5b7f6764d1bdeb117d38697e0df033362aa205c85f21e1e23", checked := Try.checked }
namespace Rows
def none {H : Type} : Left H := { results := [], args := [] }

/-- 'wandererlaw.Names': WHATEVER THE INPUT: true; the input reads as it did. -/
def namesSpec : ChangeSpec := { name := "names", fn := fun _ => fun
  | [] => { results := [.lit (.bool true)], args := [] }
  | _ => none }
def namesRow : OpenClaim := { program := "ytmhdiloejcdkcaa", sum := "9021a07c8fcb68a5b7f6764d1bdeb117d38697e0df033362aa205c85f21e1e23", func := "wanderer/wandererlaw.Names", spec := "names", apart := false }
def NamesSaid : Prop := namesRow.holds Try.pinned (OpenSpec.ofChange namesSpec)

/-- ITS FALSE NEIGHBOUR: 'it returns false'. Refute it at one input. -/
def namesWrong : ChangeSpec := { name := "names", fn := fun _ => fun
  | [] => { results := [.lit (.bool false)], args := [] }
  | _ => none }
def NamesWrongFalsely : Prop := namesRow.holds Try.pinned (OpenSpec.ofChange namesWrong)

/-- 'wandererlaw.CellSays': WHATEVER THE INPUT: true; the input reads as it did. -/
def cellSaysSpec : ChangeSpec := { name := "cellSays", fn := fun _ => fun
  | [d1, d2, d3, d4, d5] => { results := [.lit (.bool true)], args := [d1, d2, d3, d4, d5] }
  | _ => none }
def cellSaysRow : OpenClaim := { program := "ytmhdiloejcdkcaa", sum := "9021a07c8fcb68a5b7f6764d1bdeb117d38697e0df033362aa205c85f21e1e23", func := "wanderer/wandererlaw.CellSays", spec := "cellSays", unfollowed := true, recurses := true, apart := false }
def CellSaysSaid : Prop := cellSaysRow.holds Try.pinned (OpenSpec.ofChange cellSaysSpec)

/-- ITS FALSE NEIGHBOUR: 'it returns false'. Refute it at one input. -/
def cellSaysWrong : ChangeSpec := { name := "cellSays", fn := fun _ => fun
  | [d1, d2, d3, d4, d5] => { results := [.lit (.bool false)], args := [d1, d2, d3, d4, d5] }
  | _ => none }
def CellSaysWrongFalsely : Prop := cellSaysRow.holds Try.pinned (OpenSpec.ofChange cellSaysWrong)

/-- 'wandererlaw.CellClosed': WHATEVER THE INPUT: true; the input reads as it did. -/
def cellClosedSpec : ChangeSpec := { name := "cellClosed", fn := fun _ => fun
  | [d1, d2] => { results := [.lit (.bool true)], args := [d1, d2] }
  | _ => none }
def cellClosedRow : OpenClaim := { program := "ytmhdiloejcdkcaa", sum := "9021a07c8fcb68a5b7f6764d1bdeb117d38697e0df033362aa205c85f21e1e23", func := "wanderer/wandererlaw.CellClosed", spec := "cellClosed", unfollowed := true, recurses := true, apart := false }
def CellClosedSaid : Prop := cellClosedRow.holds Try.pinned (OpenSpec.ofChange cellClosedSpec)

/-- ITS FALSE NEIGHBOUR: 'it returns false'. Refute it at one input. -/
def cellClosedWrong : ChangeSpec := { name := "cellClosed", fn := fun _ => fun
  | [d1, d2] => { results := [.lit (.bool false)], args := [d1, d2] }
  | _ => none }
def CellClosedWrongFalsely : Prop := cellClosedRow.holds Try.pinned (OpenSpec.ofChange cellClosedWrong)

/-- 'wandererlaw.CellMore': WHATEVER THE INPUT: true; the input reads as it did. -/
def cellMoreSpec : ChangeSpec := { name := "cellMore", fn := fun _ => fun
  | [d1, d2, d3] => { results := [.lit (.bool true)], args := [d1, d2, d3] }
  | _ => none }
def cellMoreRow : OpenClaim := { program := "ytmhdiloejcdkcaa", sum := "9021a07c8fcb68a5b7f6764d1bdeb117d38697e0df033362aa205c85f21e1e23", func := "wanderer/wandererlaw.CellMore", spec := "cellMore", unfollowed := true, recurses := true, apart := false }
def CellMoreSaid : Prop := cellMoreRow.holds Try.pinned (OpenSpec.ofChange cellMoreSpec)

/-- ITS FALSE NEIGHBOUR: 'it returns false'. Refute it at one input. -/
def cellMoreWrong : ChangeSpec := { name := "cellMore", fn := fun _ => fun
  | [d1, d2, d3] => { results := [.lit (.bool false)], args := [d1, d2, d3] }
  | _ => none }
def CellMoreWrongFalsely : Prop := cellMoreRow.holds Try.pinned (OpenSpec.ofChange cellMoreWrong)

/-- 'wandererlaw.SourceSays': WHATEVER THE INPUT: true; the input reads as it did. -/
def sourceSaysSpec : ChangeSpec := { name := "sourceSays", fn := fun _ => fun
  | [d1, d2, d3, d4] => { results := [.lit (.bool true)], args := [d1, d2, d3, d4] }
  | _ => none }
def sourceSaysRow : OpenClaim := { program := "ytmhdiloejcdkcaa", sum := "9021a07c8fcb68a5b7f6764d1bdeb117d38697e0df033362aa205c85f21e1e23", func := "wanderer/wandererlaw.SourceSays", spec := "sourceSays", inPlace := ["internal/bytealg.IndexByteString", "internal/bytealg.IndexString"], unfollowed := true, recurses := true, named := ["internal/bytealg.MaxLen"], loops := true, apart := false }
def SourceSaysSaid : Prop := sourceSaysRow.holds Try.pinned (OpenSpec.ofChange sourceSaysSpec)

/-- ITS FALSE NEIGHBOUR: 'it returns false'. Refute it at one input. -/
def sourceSaysWrong : ChangeSpec := { name := "sourceSays", fn := fun _ => fun
  | [d1, d2, d3, d4] => { results := [.lit (.bool false)], args := [d1, d2, d3, d4] }
  | _ => none }
def SourceSaysWrongFalsely : Prop := sourceSaysRow.holds Try.pinned (OpenSpec.ofChange sourceSaysWrong)

/-- 'wandererlaw.SourceParts': WHATEVER THE INPUT: true; the input reads as it did. -/
def sourcePartsSpec : ChangeSpec := { name := "sourceParts", fn := fun _ => fun
  | [d1, d2, d3] => { results := [.lit (.bool true)], args := [d1, d2, d3] }
  | _ => none }
def sourcePartsRow : OpenClaim := { program := "ytmhdiloejcdkcaa", sum := "9021a07c8fcb68a5b7f6764d1bdeb117d38697e0df033362aa205c85f21e1e23", func := "wanderer/wandererlaw.SourceParts", spec := "sourceParts", inPlace := ["slices.overlaps[wanderer/api.Stmt]"], unfollowed := true, recurses := true, loops := true, apart := false }
def SourcePartsSaid : Prop := sourcePartsRow.holds Try.pinned (OpenSpec.ofChange sourcePartsSpec)

/-- ITS FALSE NEIGHBOUR: 'it returns false'. Refute it at one input. -/
def sourcePartsWrong : ChangeSpec := { name := "sourceParts", fn := fun _ => fun
  | [d1, d2, d3] => { results := [.lit (.bool false)], args := [d1, d2, d3] }
  | _ => none }
def SourcePartsWrongFalsely : Prop := sourcePartsRow.holds Try.pinned (OpenSpec.ofChange sourcePartsWrong)

/- THE SECOND FORM. 'bulk': how many values and letters a reading holds, each counted each time it is reached (what is shared counts as often as it is met; a slice's spare places count too). A statement '..UptoSaid' is the law's where the arguments, and the package variables that the reading takes, are together of bulk at most 1048576: NARROWER than '..Said'. Prove '..Said' where nothing that the law and all that it calls make is longer than what came in: it says more and counts as full. Else prove '..UptoSaid'. A law counts once. -/
mutual
def uptoBulk {H : Type} : DataW H → Nat
  | .lit (.string bytes) => bytes.length + 1
  | .lit _ => 1
  | .nil => 1
  | .ptr d => uptoBulk d + 1
  | .slice elems spare => uptoBulkAll elems + uptoBulkAll spare + 1
  | .agg parts => uptoBulkAll parts + 1
  | .iface _ d => uptoBulk d + 1
  | .map entries => uptoBulkEntries entries + 1
  | .held _ => 1
def uptoBulkAll {H : Type} : List (DataW H) → Nat
  | [] => 0
  | d :: r => uptoBulk d + uptoBulkAll r
def uptoBulkEntries {H : Type} : List (Lit × DataW H) → Nat
  | [] => 0
  | x :: r => uptoBulkEntry x + uptoBulkEntries r
def uptoBulkEntry {H : Type} : Lit × DataW H → Nat
  | (.string bytes, d) => bytes.length + uptoBulk d + 1
  | (_, d) => uptoBulk d + 1
 end
def uptoSmall : (H : Type) → List (DataW H) → Bool := fun _ ds => decide (uptoBulkAll ds ≤ 1048576)
def OpenSpec.upto (s : _root_.Go.ChangeSpec) : _root_.Go.OpenSpec := { _root_.Go.OpenSpec.ofChange s with cond := some uptoSmall }

/-- 'wandererlaw.Names', WHERE WHAT IT READS IS OF BULK AT MOST 1048576: true; the input reads as it did. -/
def namesUptoRow : OpenClaim := { program := "ytmhdiloejcdkcaa", sum := "9021a07c8fcb68a5b7f6764d1bdeb117d38697e0df033362aa205c85f21e1e23", func := "wanderer/wandererlaw.Names", spec := "names", apart := false, narrowed := true }
def NamesUptoSaid : Prop := namesUptoRow.holds Try.pinned (OpenSpec.upto namesSpec)

/-- 'wandererlaw.CellSays', WHERE WHAT IT READS IS OF BULK AT MOST 1048576: true; the input reads as it did. -/
def cellSaysUptoRow : OpenClaim := { program := "ytmhdiloejcdkcaa", sum := "9021a07c8fcb68a5b7f6764d1bdeb117d38697e0df033362aa205c85f21e1e23", func := "wanderer/wandererlaw.CellSays", spec := "cellSays", unfollowed := true, recurses := true, apart := false, narrowed := true }
def CellSaysUptoSaid : Prop := cellSaysUptoRow.holds Try.pinned (OpenSpec.upto cellSaysSpec)

/-- 'wandererlaw.CellClosed', WHERE WHAT IT READS IS OF BULK AT MOST 1048576: true; the input reads as it did. -/
def cellClosedUptoRow : OpenClaim := { program := "ytmhdiloejcdkcaa", sum := "9021a07c8fcb68a5b7f6764d1bdeb117d38697e0df033362aa205c85f21e1e23", func := "wanderer/wandererlaw.CellClosed", spec := "cellClosed", unfollowed := true, recurses := true, apart := false, narrowed := true }
def CellClosedUptoSaid : Prop := cellClosedUptoRow.holds Try.pinned (OpenSpec.upto cellClosedSpec)

/-- 'wandererlaw.CellMore', WHERE WHAT IT READS IS OF BULK AT MOST 1048576: true; the input reads as it did. -/
def cellMoreUptoRow : OpenClaim := { program := "ytmhdiloejcdkcaa", sum := "9021a07c8fcb68a5b7f6764d1bdeb117d38697e0df033362aa205c85f21e1e23", func := "wanderer/wandererlaw.CellMore", spec := "cellMore", unfollowed := true, recurses := true, apart := false, narrowed := true }
def CellMoreUptoSaid : Prop := cellMoreUptoRow.holds Try.pinned (OpenSpec.upto cellMoreSpec)

/-- 'wandererlaw.SourceSays', WHERE WHAT IT READS IS OF BULK AT MOST 1048576: true; the input reads as it did. -/
def sourceSaysUptoRow : OpenClaim := { program := "ytmhdiloejcdkcaa", sum := "9021a07c8fcb68a5b7f6764d1bdeb117d38697e0df033362aa205c85f21e1e23", func := "wanderer/wandererlaw.SourceSays", spec := "sourceSays", inPlace := ["internal/bytealg.IndexByteString", "internal/bytealg.IndexString"], unfollowed := true, recurses := true, named := ["internal/bytealg.MaxLen"], loops := true, apart := false, narrowed := true }
def SourceSaysUptoSaid : Prop := sourceSaysUptoRow.holds Try.pinned (OpenSpec.upto sourceSaysSpec)

/-- 'wandererlaw.SourceParts', WHERE WHAT IT READS IS OF BULK AT MOST 1048576: true; the input reads as it did. -/
def sourcePartsUptoRow : OpenClaim := { program := "ytmhdiloejcdkcaa", sum := "9021a07c8fcb68a5b7f6764d1bdeb117d38697e0df033362aa205c85f21e1e23", func := "wanderer/wandererlaw.SourceParts", spec := "sourceParts", inPlace := ["slices.overlaps[wanderer/api.Stmt]"], unfollowed := true, recurses := true, loops := true, apart := false, narrowed := true }
def SourcePartsUptoSaid : Prop := sourcePartsUptoRow.holds Try.pinned (OpenSpec.upto sourcePartsSpec)

end Rows
end Go.Proofs.Ytmhdiloejcdkcaa
