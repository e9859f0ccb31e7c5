/-
  No cell of these rows narrows 'for every input' (looked for: loops, veiled, ifaces, maps, wideKeys, modest, calm, conditions, laid).
  DERIVED. THE GIVEN ROWS OF THIS SEAT. 5 by the template 'for every input the law returns true; each argument reads behind the call as it read before'; 0 by the template 'total and deterministic' (their statements: YtanjndebikknoaaTotals.lean).
  GIVEN WITH THE SEED: the statements are not yours to turn. If you find one false, say at which input.
  Laid BY PROGRAM, IN A SANDBOX (cutbox-rows.mjs): the forced cells as the released guide's own fill.sh prints them over the translation 2a15d891e45f450b… (all of the seat's roots in one cut). By AI agents, Wed Nov 11 2026. No macro, syntax, notation, axiom, sorry.
-/
import Derived.Test.YtanjndebikknoaaChecked
import GoSem.Claim
import GoSem.ClaimJoined
import GoSem.ClaimMapViews
import Derived.JoinedTies
import Derived.KernelRfl
namespace Go.Proofs.Ytanjndebikknoaa
/- THE CELL 'sum', in the pinned program and in every row, IS THE sha256 OF THE DUMP (.gsa) THAT YtanjndebikknoaaProg.lean LOADS. Nothing in Lean hashes anything: it is a label: what it is worth is what the hold of that sum in a sandbox is worth. -/
noncomputable def Try.pinned : Pinned := { name := "ytanjndebikknoaa", sum := "2a15d891e45f450b4e293e704210a880255014a05b085c0605f55bcde001d82b", checked := Try.checked }
namespace Rows
def none {H : Type} : Left H := { results := [], args := [] }

/-- 'laws.FnNetTop': WHATEVER THE INPUT: true; the input reads as it did. -/
def fnNetTopSpec : ChangeSpec := { name := "fnNetTop", fn := fun _ => fun
  | [d] => { results := [.lit (.bool true)], args := [d] }
  | _ => none }
def fnNetTopRow : OpenClaim := { program := "ytanjndebikknoaa", sum := "2a15d891e45f450b4e293e704210a880255014a05b085c0605f55bcde001d82b", func := "loop.example/ternnet/laws.FnNetTop", spec := "fnNetTop", unfollowed := true, recurses := true, apart := false }
def FnNetTopSaid : Prop := fnNetTopRow.holds Try.pinned (OpenSpec.ofChange fnNetTopSpec)

/-- ITS FALSE NEIGHBOUR: 'it returns false'. Refute it at one input. -/
def fnNetTopWrong : ChangeSpec := { name := "fnNetTop", fn := fun _ => fun
  | [d] => { results := [.lit (.bool false)], args := [d] }
  | _ => none }
def FnNetTopWrongFalsely : Prop := fnNetTopRow.holds Try.pinned (OpenSpec.ofChange fnNetTopWrong)

/-- 'laws.FnNetCover': WHATEVER THE INPUT: true; the input reads as it did. -/
def fnNetCoverSpec : ChangeSpec := { name := "fnNetCover", fn := fun _ => fun
  | [d] => { results := [.lit (.bool true)], args := [d] }
  | _ => none }
def fnNetCoverRow : OpenClaim := { program := "ytanjndebikknoaa", sum := "2a15d891e45f450b4e293e704210a880255014a05b085c0605f55bcde001d82b", func := "loop.example/ternnet/laws.FnNetCover", spec := "fnNetCover", unfollowed := true, recurses := true, apart := false }
def FnNetCoverSaid : Prop := fnNetCoverRow.holds Try.pinned (OpenSpec.ofChange fnNetCoverSpec)

/-- ITS FALSE NEIGHBOUR: 'it returns false'. Refute it at one input. -/
def fnNetCoverWrong : ChangeSpec := { name := "fnNetCover", fn := fun _ => fun
  | [d] => { results := [.lit (.bool false)], args := [d] }
  | _ => none }
def FnNetCoverWrongFalsely : Prop := fnNetCoverRow.holds Try.pinned (OpenSpec.ofChange fnNetCoverWrong)

/-- 'laws.FnNetBest': WHATEVER THE INPUT: true; the input reads as it did. -/
def fnNetBestSpec : ChangeSpec := { name := "fnNetBest", fn := fun _ => fun
  | [d] => { results := [.lit (.bool true)], args := [d] }
  | _ => none }
def fnNetBestRow : OpenClaim := { program := "ytanjndebikknoaa", sum := "2a15d891e45f450b4e293e704210a880255014a05b085c0605f55bcde001d82b", func := "loop.example/ternnet/laws.FnNetBest", spec := "fnNetBest", apart := false }
def FnNetBestSaid : Prop := fnNetBestRow.holds Try.pinned (OpenSpec.ofChange fnNetBestSpec)

/-- ITS FALSE NEIGHBOUR: 'it returns false'. Refute it at one input. -/
def fnNetBestWrong : ChangeSpec := { name := "fnNetBest", fn := fun _ => fun
  | [d] => { results := [.lit (.bool false)], args := [d] }
  | _ => none }
def FnNetBestWrongFalsely : Prop := fnNetBestRow.holds Try.pinned (OpenSpec.ofChange fnNetBestWrong)

/-- 'laws.FnExactNetHas': WHATEVER THE INPUT: true; the input reads as it did. -/
def fnExactNetHasSpec : ChangeSpec := { name := "fnExactNetHas", fn := fun _ => fun
  | [d1, d2] => { results := [.lit (.bool true)], args := [d1, d2] }
  | _ => none }
def fnExactNetHasRow : OpenClaim := { program := "ytanjndebikknoaa", sum := "2a15d891e45f450b4e293e704210a880255014a05b085c0605f55bcde001d82b", func := "loop.example/ternnet/laws.FnExactNetHas", spec := "fnExactNetHas", apart := false }
def FnExactNetHasSaid : Prop := fnExactNetHasRow.holds Try.pinned (OpenSpec.ofChange fnExactNetHasSpec)

/-- ITS FALSE NEIGHBOUR: 'it returns false'. Refute it at one input. -/
def fnExactNetHasWrong : ChangeSpec := { name := "fnExactNetHas", fn := fun _ => fun
  | [d1, d2] => { results := [.lit (.bool false)], args := [d1, d2] }
  | _ => none }
def FnExactNetHasWrongFalsely : Prop := fnExactNetHasRow.holds Try.pinned (OpenSpec.ofChange fnExactNetHasWrong)

/-- 'laws.FnExactNetIn': WHATEVER THE INPUT: true; the input reads as it did. -/
def fnExactNetInSpec : ChangeSpec := { name := "fnExactNetIn", fn := fun _ => fun
  | [d1, d2] => { results := [.lit (.bool true)], args := [d1, d2] }
  | _ => none }
def fnExactNetInRow : OpenClaim := { program := "ytanjndebikknoaa", sum := "2a15d891e45f450b4e293e704210a880255014a05b085c0605f55bcde001d82b", func := "loop.example/ternnet/laws.FnExactNetIn", spec := "fnExactNetIn", apart := false }
def FnExactNetInSaid : Prop := fnExactNetInRow.holds Try.pinned (OpenSpec.ofChange fnExactNetInSpec)

/-- ITS FALSE NEIGHBOUR: 'it returns false'. Refute it at one input. -/
def fnExactNetInWrong : ChangeSpec := { name := "fnExactNetIn", fn := fun _ => fun
  | [d1, d2] => { results := [.lit (.bool false)], args := [d1, d2] }
  | _ => none }
def FnExactNetInWrongFalsely : Prop := fnExactNetInRow.holds Try.pinned (OpenSpec.ofChange fnExactNetInWrong)

/- THE SECOND FORM. 'bulk': how many values and letters a reading holds, each counted each time it is reached (what is shared counts as often as it is met; a slice's spare places count too). A statement '..UptoSaid' is the law's where the arguments, and the package variables that the reading takes, are together of bulk at most 1048576: NARROWER than '..Said'. Prove '..Said' where nothing that the law and all that it calls make is longer than what came in: it says more and counts as full. Else prove '..UptoSaid'. A law counts once. -/
mutual
def uptoBulk {H : Type} : DataW H → Nat
  | .lit (.string bytes) => bytes.length + 1
  | .lit _ => 1
  | .nil => 1
  | .ptr d => uptoBulk d + 1
  | .slice elems spare => uptoBulkAll elems + uptoBulkAll spare + 1
  | .agg parts => uptoBulkAll parts + 1
  | .iface _ d => uptoBulk d + 1
  | .map entries => uptoBulkEntries entries + 1
  | .held _ => 1
def uptoBulkAll {H : Type} : List (DataW H) → Nat
  | [] => 0
  | d :: r => uptoBulk d + uptoBulkAll r
def uptoBulkEntries {H : Type} : List (Lit × DataW H) → Nat
  | [] => 0
  | x :: r => uptoBulkEntry x + uptoBulkEntries r
def uptoBulkEntry {H : Type} : Lit × DataW H → Nat
  | (.string bytes, d) => bytes.length + uptoBulk d + 1
  | (_, d) => uptoBulk d + 1
 end
def uptoSmall : (H : Type) → List (DataW H) → Bool := fun _ ds => decide (uptoBulkAll ds ≤ 1048576)
def OpenSpec.upto (s : _root_.Go.ChangeSpec) : _root_.Go.OpenSpec := { _root_.Go.OpenSpec.ofChange s with cond := some uptoSmall }

/-- 'laws.FnNetTop', WHERE WHAT IT READS IS OF BULK AT MOST 1048576: true; the input reads as it did. -/
def fnNetTopUptoRow : OpenClaim := { program := "ytanjndebikknoaa", sum := "2a15d891e45f450b4e293e704210a880255014a05b085c0605f55bcde001d82b", func := "loop.example/ternnet/laws.FnNetTop", spec := "fnNetTop", unfollowed := true, recurses := true, apart := false, narrowed := true }
def FnNetTopUptoSaid : Prop := fnNetTopUptoRow.holds Try.pinned (OpenSpec.upto fnNetTopSpec)

/-- 'laws.FnNetCover', WHERE WHAT IT READS IS OF BULK AT MOST 1048576: true; the input reads as it did. -/
def fnNetCoverUptoRow : OpenClaim := { program := "ytanjndebikknoaa", sum := "2a15d891e45f450b4e293e704210a880255014a05b085c0605f55bcde001d82b", func := "loop.example/ternnet/laws.FnNetCover", spec := "fnNetCover", unfollowed := true, recurses := true, apart := false, narrowed := true }
def FnNetCoverUptoSaid : Prop := fnNetCoverUptoRow.holds Try.pinned (OpenSpec.upto fnNetCoverSpec)

/-- 'laws.FnNetBest', WHERE WHAT IT READS IS OF BULK AT MOST 1048576: true; the input reads as it did. -/
def fnNetBestUptoRow : OpenClaim := { program := "ytanjndebikknoaa", sum := "2a15d891e45f450b4e293e704210a880255014a05b085c0605f55bcde001d82b", func := "loop.example/ternnet/laws.FnNetBest", spec := "fnNetBest", apart := false, narrowed := true }
def FnNetBestUptoSaid : Prop := fnNetBestUptoRow.holds Try.pinned (OpenSpec.upto fnNetBestSpec)

/-- 'laws.FnExactNetHas', WHERE WHAT IT READS IS OF BULK AT MOST 1048576: true; the input reads as it did. -/
def fnExactNetHasUptoRow : OpenClaim := { program := "ytanjndebikknoaa", sum := "2a15d891e45f450b4e293e704210a880255014a05b085c0605f55bcde001d82b", func := "loop.example/ternnet/laws.FnExactNetHas", spec := "fnExactNetHas", apart := false, narrowed := true }
def FnExactNetHasUptoSaid : Prop := fnExactNetHasUptoRow.holds Try.pinned (OpenSpec.upto fnExactNetHasSpec)

/-- 'laws.FnExactNetIn', WHERE WHAT IT READS IS OF BULK AT MOST 1048576: true; the input reads as it did. -/
def fnExactNetInUptoRow : OpenClaim := { program := "ytanjndebikknoaa", sum := "2a15d891e45f450b4e293e704210a880255014a05b085c0605f55bcde001d82b", func := "loop.example/ternnet/laws.FnExactNetIn", spec := "fnExactNetIn", apart := false, narrowed := true }
def FnExactNetInUptoSaid : Prop := fnExactNetInUptoRow.holds Try.pinned (OpenSpec.upto fnExactNetInSpec)

end Rows
end Go.Proofs.Ytanjndebikknoaa
