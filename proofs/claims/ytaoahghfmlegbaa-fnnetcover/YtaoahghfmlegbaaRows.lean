/-
  No cell of these rows narrows 'for every input' (looked for: loops, veiled, ifaces, maps, wideKeys, modest, calm, conditions, laid).
  DERIVED. THE GIVEN ROWS OF THIS SEAT. 8 by the template 'for every input the law returns true; each argument reads behind the call as it read before'; 0 by the template 'total and deterministic' (their statements: YtaoahghfmlegbaaTotals.lean).
  GIVEN WITH THE SEED: the statements are not yours to turn. If you find one false, say at which input.
  Laid BY PROGRAM, IN A SANDBOX (cutbox-rows.mjs): the forced cells as the released guide's own fill.sh prints them over the translation 7f084be4d7db291d… (all of the seat's roots in one cut). By AI agents, Wed Nov 11 2026. No macro, syntax, notation, axiom, sorry.
-/
import Derived.Test.YtaoahghfmlegbaaChecked
import GoSem.Claim
import GoSem.ClaimJoined
import GoSem.ClaimMapViews
import Derived.JoinedTies
import Derived.KernelRfl
namespace Go.Proofs.Ytaoahghfmlegbaa
/- THE CELL 'sum', in the pinned program and in every row, IS THE sha256 OF THE DUMP (.gsa) THAT YtaoahghfmlegbaaProg.lean LOADS. Nothing in Lean hashes anything: it is a label: what it is worth is what the hold of that sum in a sandbox is worth. -/
noncomputable def Try.pinned : Pinned := { name := "ytaoahghfmlegbaa", sum := "7f084be4d7db291d07468ba4f3fae4dc53eaa3a9e1c88bcd838457f2197cff6e", checked := Try.checked }
namespace Rows
def none {H : Type} : Left H := { results := [], args := [] }

/-- 'laws.FnNetTop': WHATEVER THE INPUT: true; the input reads as it did. -/
def fnNetTopSpec : ChangeSpec := { name := "fnNetTop", fn := fun _ => fun
  | [d] => { results := [.lit (.bool true)], args := [d] }
  | _ => none }
def fnNetTopRow : OpenClaim := { program := "ytaoahghfmlegbaa", sum := "7f084be4d7db291d07468ba4f3fae4dc53eaa3a9e1c88bcd838457f2197cff6e", func := "loop.example/ternnet/laws.FnNetTop", spec := "fnNetTop", unfollowed := true, recurses := true, plainKeys := false, apart := false }
def FnNetTopSaid : Prop := fnNetTopRow.holds Try.pinned (OpenSpec.ofChange fnNetTopSpec)

/-- ITS FALSE NEIGHBOUR: 'it returns false'. Refute it at one input. -/
def fnNetTopWrong : ChangeSpec := { name := "fnNetTop", fn := fun _ => fun
  | [d] => { results := [.lit (.bool false)], args := [d] }
  | _ => none }
def FnNetTopWrongFalsely : Prop := fnNetTopRow.holds Try.pinned (OpenSpec.ofChange fnNetTopWrong)

/-- 'laws.FnNetCover': WHATEVER THE INPUT: true; the input reads as it did. -/
def fnNetCoverSpec : ChangeSpec := { name := "fnNetCover", fn := fun _ => fun
  | [d] => { results := [.lit (.bool true)], args := [d] }
  | _ => none }
def fnNetCoverRow : OpenClaim := { program := "ytaoahghfmlegbaa", sum := "7f084be4d7db291d07468ba4f3fae4dc53eaa3a9e1c88bcd838457f2197cff6e", func := "loop.example/ternnet/laws.FnNetCover", spec := "fnNetCover", unfollowed := true, recurses := true, plainKeys := false, apart := false }
def FnNetCoverSaid : Prop := fnNetCoverRow.holds Try.pinned (OpenSpec.ofChange fnNetCoverSpec)

/-- ITS FALSE NEIGHBOUR: 'it returns false'. Refute it at one input. -/
def fnNetCoverWrong : ChangeSpec := { name := "fnNetCover", fn := fun _ => fun
  | [d] => { results := [.lit (.bool false)], args := [d] }
  | _ => none }
def FnNetCoverWrongFalsely : Prop := fnNetCoverRow.holds Try.pinned (OpenSpec.ofChange fnNetCoverWrong)

/-- 'laws.FnNetBest': WHATEVER THE INPUT: true; the input reads as it did. -/
def fnNetBestSpec : ChangeSpec := { name := "fnNetBest", fn := fun _ => fun
  | [d] => { results := [.lit (.bool true)], args := [d] }
  | _ => none }
def fnNetBestRow : OpenClaim := { program := "ytaoahghfmlegbaa", sum := "7f084be4d7db291d07468ba4f3fae4dc53eaa3a9e1c88bcd838457f2197cff6e", func := "loop.example/ternnet/laws.FnNetBest", spec := "fnNetBest", plainKeys := false, apart := false }
def FnNetBestSaid : Prop := fnNetBestRow.holds Try.pinned (OpenSpec.ofChange fnNetBestSpec)

/-- ITS FALSE NEIGHBOUR: 'it returns false'. Refute it at one input. -/
def fnNetBestWrong : ChangeSpec := { name := "fnNetBest", fn := fun _ => fun
  | [d] => { results := [.lit (.bool false)], args := [d] }
  | _ => none }
def FnNetBestWrongFalsely : Prop := fnNetBestRow.holds Try.pinned (OpenSpec.ofChange fnNetBestWrong)

/-- 'laws.FnAclSays': WHATEVER THE INPUT: true; the input reads as it did. -/
def fnAclSaysSpec : ChangeSpec := { name := "fnAclSays", fn := fun _ => fun
  | [d] => { results := [.lit (.bool true)], args := [d] }
  | _ => none }
def fnAclSaysRow : OpenClaim := { program := "ytaoahghfmlegbaa", sum := "7f084be4d7db291d07468ba4f3fae4dc53eaa3a9e1c88bcd838457f2197cff6e", func := "loop.example/ternnet/laws.FnAclSays", spec := "fnAclSays", inPlace := ["sync/atomic.LoadUint32", "(*internal/sync.Mutex).Lock", "internal/race.Disable", "sync/atomic.CompareAndSwapInt32", "internal/race.Enable", "internal/race.Acquire", "(*internal/sync.Mutex).lockSlow", "internal/sync.runtime_canSpin", "internal/sync.runtime_doSpin", "internal/sync.throw", "internal/sync.runtime_nanotime", "internal/sync.runtime_SemacquireMutex", "sync/atomic.AddInt32", "(*internal/sync.Mutex).Unlock", "internal/race.ReleaseMerge", "(*internal/sync.Mutex).unlockSlow", "internal/sync.fatal", "internal/sync.runtime_Semrelease", "sync/atomic.StoreUint32"], unfollowed := true, recurses := true, plainKeys := false, apart := false }
def FnAclSaysSaid : Prop := fnAclSaysRow.holds Try.pinned (OpenSpec.ofChange fnAclSaysSpec)

/-- ITS FALSE NEIGHBOUR: 'it returns false'. Refute it at one input. -/
def fnAclSaysWrong : ChangeSpec := { name := "fnAclSays", fn := fun _ => fun
  | [d] => { results := [.lit (.bool false)], args := [d] }
  | _ => none }
def FnAclSaysWrongFalsely : Prop := fnAclSaysRow.holds Try.pinned (OpenSpec.ofChange fnAclSaysWrong)

/-- 'laws.FnAclWitness': WHATEVER THE INPUT: true; the input reads as it did. -/
def fnAclWitnessSpec : ChangeSpec := { name := "fnAclWitness", fn := fun _ => fun
  | [d1, d2] => { results := [.lit (.bool true)], args := [d1, d2] }
  | _ => none }
def fnAclWitnessRow : OpenClaim := { program := "ytaoahghfmlegbaa", sum := "7f084be4d7db291d07468ba4f3fae4dc53eaa3a9e1c88bcd838457f2197cff6e", func := "loop.example/ternnet/laws.FnAclWitness", spec := "fnAclWitness", inPlace := ["sync/atomic.LoadUint32", "(*internal/sync.Mutex).Lock", "internal/race.Disable", "sync/atomic.CompareAndSwapInt32", "internal/race.Enable", "internal/race.Acquire", "(*internal/sync.Mutex).lockSlow", "internal/sync.runtime_canSpin", "internal/sync.runtime_doSpin", "internal/sync.throw", "internal/sync.runtime_nanotime", "internal/sync.runtime_SemacquireMutex", "sync/atomic.AddInt32", "(*internal/sync.Mutex).Unlock", "internal/race.ReleaseMerge", "(*internal/sync.Mutex).unlockSlow", "internal/sync.fatal", "internal/sync.runtime_Semrelease", "sync/atomic.StoreUint32"], unfollowed := true, recurses := true, plainKeys := false, apart := false }
def FnAclWitnessSaid : Prop := fnAclWitnessRow.holds Try.pinned (OpenSpec.ofChange fnAclWitnessSpec)

/-- ITS FALSE NEIGHBOUR: 'it returns false'. Refute it at one input. -/
def fnAclWitnessWrong : ChangeSpec := { name := "fnAclWitness", fn := fun _ => fun
  | [d1, d2] => { results := [.lit (.bool false)], args := [d1, d2] }
  | _ => none }
def FnAclWitnessWrongFalsely : Prop := fnAclWitnessRow.holds Try.pinned (OpenSpec.ofChange fnAclWitnessWrong)

/-- 'laws.FnAclDiffer': WHATEVER THE INPUT: true; the input reads as it did. -/
def fnAclDifferSpec : ChangeSpec := { name := "fnAclDiffer", fn := fun _ => fun
  | [d1, d2] => { results := [.lit (.bool true)], args := [d1, d2] }
  | _ => none }
def fnAclDifferRow : OpenClaim := { program := "ytaoahghfmlegbaa", sum := "7f084be4d7db291d07468ba4f3fae4dc53eaa3a9e1c88bcd838457f2197cff6e", func := "loop.example/ternnet/laws.FnAclDiffer", spec := "fnAclDiffer", inPlace := ["sync/atomic.LoadUint32", "(*internal/sync.Mutex).Lock", "internal/race.Disable", "sync/atomic.CompareAndSwapInt32", "internal/race.Enable", "internal/race.Acquire", "(*internal/sync.Mutex).lockSlow", "internal/sync.runtime_canSpin", "internal/sync.runtime_doSpin", "internal/sync.throw", "internal/sync.runtime_nanotime", "internal/sync.runtime_SemacquireMutex", "sync/atomic.AddInt32", "(*internal/sync.Mutex).Unlock", "internal/race.ReleaseMerge", "(*internal/sync.Mutex).unlockSlow", "internal/sync.fatal", "internal/sync.runtime_Semrelease", "sync/atomic.StoreUint32"], unfollowed := true, recurses := true, plainKeys := false, apart := false }
def FnAclDifferSaid : Prop := fnAclDifferRow.holds Try.pinned (OpenSpec.ofChange fnAclDifferSpec)

/-- ITS FALSE NEIGHBOUR: 'it returns false'. Refute it at one input. -/
def fnAclDifferWrong : ChangeSpec := { name := "fnAclDiffer", fn := fun _ => fun
  | [d1, d2] => { results := [.lit (.bool false)], args := [d1, d2] }
  | _ => none }
def FnAclDifferWrongFalsely : Prop := fnAclDifferRow.holds Try.pinned (OpenSpec.ofChange fnAclDifferWrong)

/-- 'laws.FnExactNetHas': WHATEVER THE INPUT: true; the input reads as it did. -/
def fnExactNetHasSpec : ChangeSpec := { name := "fnExactNetHas", fn := fun _ => fun
  | [d1, d2] => { results := [.lit (.bool true)], args := [d1, d2] }
  | _ => none }
def fnExactNetHasRow : OpenClaim := { program := "ytaoahghfmlegbaa", sum := "7f084be4d7db291d07468ba4f3fae4dc53eaa3a9e1c88bcd838457f2197cff6e", func := "loop.example/ternnet/laws.FnExactNetHas", spec := "fnExactNetHas", plainKeys := false, apart := false }
def FnExactNetHasSaid : Prop := fnExactNetHasRow.holds Try.pinned (OpenSpec.ofChange fnExactNetHasSpec)

/-- ITS FALSE NEIGHBOUR: 'it returns false'. Refute it at one input. -/
def fnExactNetHasWrong : ChangeSpec := { name := "fnExactNetHas", fn := fun _ => fun
  | [d1, d2] => { results := [.lit (.bool false)], args := [d1, d2] }
  | _ => none }
def FnExactNetHasWrongFalsely : Prop := fnExactNetHasRow.holds Try.pinned (OpenSpec.ofChange fnExactNetHasWrong)

/-- 'laws.FnExactNetIn': WHATEVER THE INPUT: true; the input reads as it did. -/
def fnExactNetInSpec : ChangeSpec := { name := "fnExactNetIn", fn := fun _ => fun
  | [d1, d2] => { results := [.lit (.bool true)], args := [d1, d2] }
  | _ => none }
def fnExactNetInRow : OpenClaim := { program := "ytaoahghfmlegbaa", sum := "7f084be4d7db291d07468ba4f3fae4dc53eaa3a9e1c88bcd838457f2197cff6e", func := "loop.example/ternnet/laws.FnExactNetIn", spec := "fnExactNetIn", plainKeys := false, apart := false }
def FnExactNetInSaid : Prop := fnExactNetInRow.holds Try.pinned (OpenSpec.ofChange fnExactNetInSpec)

/-- ITS FALSE NEIGHBOUR: 'it returns false'. Refute it at one input. -/
def fnExactNetInWrong : ChangeSpec := { name := "fnExactNetIn", fn := fun _ => fun
  | [d1, d2] => { results := [.lit (.bool false)], args := [d1, d2] }
  | _ => none }
def FnExactNetInWrongFalsely : Prop := fnExactNetInRow.holds Try.pinned (OpenSpec.ofChange fnExactNetInWrong)

/- THE SECOND FORM. 'bulk': how many values and letters a reading holds, each counted each time it is reached (what is shared counts as often as it is met; a slice's spare places count too). A statement '..UptoSaid' is the law's where the arguments, and the package variables that the reading takes, are together of bulk at most 1048576: NARROWER than '..Said'. Prove '..Said' where nothing that the law and all that it calls make is longer than what came in: it says more and counts as full. Else prove '..UptoSaid'. A law counts once. -/
mutual
def uptoBulk {H : Type} : DataW H → Nat
  | .lit (.string bytes) => bytes.length + 1
  | .lit _ => 1
  | .nil => 1
  | .ptr d => uptoBulk d + 1
  | .slice elems spare => uptoBulkAll elems + uptoBulkAll spare + 1
  | .agg parts => uptoBulkAll parts + 1
  | .iface _ d => uptoBulk d + 1
  | .map entries => uptoBulkEntries entries + 1
  | .held _ => 1
def uptoBulkAll {H : Type} : List (DataW H) → Nat
  | [] => 0
  | d :: r => uptoBulk d + uptoBulkAll r
def uptoBulkEntries {H : Type} : List (Lit × DataW H) → Nat
  | [] => 0
  | x :: r => uptoBulkEntry x + uptoBulkEntries r
def uptoBulkEntry {H : Type} : Lit × DataW H → Nat
  | (.string bytes, d) => bytes.length + uptoBulk d + 1
  | (_, d) => uptoBulk d + 1
 end
def uptoSmall : (H : Type) → List (DataW H) → Bool := fun _ ds => decide (uptoBulkAll ds ≤ 1048576)
def OpenSpec.upto (s : _root_.Go.ChangeSpec) : _root_.Go.OpenSpec := { _root_.Go.OpenSpec.ofChange s with cond := some uptoSmall }

/-- 'laws.FnNetTop', WHERE WHAT IT READS IS OF BULK AT MOST 1048576: true; the input reads as it did. -/
def fnNetTopUptoRow : OpenClaim := { program := "ytaoahghfmlegbaa", sum := "7f084be4d7db291d07468ba4f3fae4dc53eaa3a9e1c88bcd838457f2197cff6e", func := "loop.example/ternnet/laws.FnNetTop", spec := "fnNetTop", unfollowed := true, recurses := true, plainKeys := false, apart := false, narrowed := true }
def FnNetTopUptoSaid : Prop := fnNetTopUptoRow.holds Try.pinned (OpenSpec.upto fnNetTopSpec)

/-- 'laws.FnNetCover', WHERE WHAT IT READS IS OF BULK AT MOST 1048576: true; the input reads as it did. -/
def fnNetCoverUptoRow : OpenClaim := { program := "ytaoahghfmlegbaa", sum := "7f084be4d7db291d07468ba4f3fae4dc53eaa3a9e1c88bcd838457f2197cff6e", func := "loop.example/ternnet/laws.FnNetCover", spec := "fnNetCover", unfollowed := true, recurses := true, plainKeys := false, apart := false, narrowed := true }
def FnNetCoverUptoSaid : Prop := fnNetCoverUptoRow.holds Try.pinned (OpenSpec.upto fnNetCoverSpec)

/-- 'laws.FnNetBest', WHERE WHAT IT READS IS OF BULK AT MOST 1048576: true; the input reads as it did. -/
def fnNetBestUptoRow : OpenClaim := { program := "ytaoahghfmlegbaa", sum := "7f084be4d7db291d07468ba4f3fae4dc53eaa3a9e1c88bcd838457f2197cff6e", func := "loop.example/ternnet/laws.FnNetBest", spec := "fnNetBest", plainKeys := false, apart := false, narrowed := true }
def FnNetBestUptoSaid : Prop := fnNetBestUptoRow.holds Try.pinned (OpenSpec.upto fnNetBestSpec)

/-- 'laws.FnAclSays', WHERE WHAT IT READS IS OF BULK AT MOST 1048576: true; the input reads as it did. -/
def fnAclSaysUptoRow : OpenClaim := { program := "ytaoahghfmlegbaa", sum := "7f084be4d7db291d07468ba4f3fae4dc53eaa3a9e1c88bcd838457f2197cff6e", func := "loop.example/ternnet/laws.FnAclSays", spec := "fnAclSays", inPlace := ["sync/atomic.LoadUint32", "(*internal/sync.Mutex).Lock", "internal/race.Disable", "sync/atomic.CompareAndSwapInt32", "internal/race.Enable", "internal/race.Acquire", "(*internal/sync.Mutex).lockSlow", "internal/sync.runtime_canSpin", "internal/sync.runtime_doSpin", "internal/sync.throw", "internal/sync.runtime_nanotime", "internal/sync.runtime_SemacquireMutex", "sync/atomic.AddInt32", "(*internal/sync.Mutex).Unlock", "internal/race.ReleaseMerge", "(*internal/sync.Mutex).unlockSlow", "internal/sync.fatal", "internal/sync.runtime_Semrelease", "sync/atomic.StoreUint32"], unfollowed := true, recurses := true, plainKeys := false, apart := false, narrowed := true }
def FnAclSaysUptoSaid : Prop := fnAclSaysUptoRow.holds Try.pinned (OpenSpec.upto fnAclSaysSpec)

/-- 'laws.FnAclWitness', WHERE WHAT IT READS IS OF BULK AT MOST 1048576: true; the input reads as it did. -/
def fnAclWitnessUptoRow : OpenClaim := { program := "ytaoahghfmlegbaa", sum := "7f084be4d7db291d07468ba4f3fae4dc53eaa3a9e1c88bcd838457f2197cff6e", func := "loop.example/ternnet/laws.FnAclWitness", spec := "fnAclWitness", inPlace := ["sync/atomic.LoadUint32", "(*internal/sync.Mutex).Lock", "internal/race.Disable", "sync/atomic.CompareAndSwapInt32", "internal/race.Enable", "internal/race.Acquire", "(*internal/sync.Mutex).lockSlow", "internal/sync.runtime_canSpin", "internal/sync.runtime_doSpin", "internal/sync.throw", "internal/sync.runtime_nanotime", "internal/sync.runtime_SemacquireMutex", "sync/atomic.AddInt32", "(*internal/sync.Mutex).Unlock", "internal/race.ReleaseMerge", "(*internal/sync.Mutex).unlockSlow", "internal/sync.fatal", "internal/sync.runtime_Semrelease", "sync/atomic.StoreUint32"], unfollowed := true, recurses := true, plainKeys := false, apart := false, narrowed := true }
def FnAclWitnessUptoSaid : Prop := fnAclWitnessUptoRow.holds Try.pinned (OpenSpec.upto fnAclWitnessSpec)

/-- 'laws.FnAclDiffer', WHERE WHAT IT READS IS OF BULK AT MOST 1048576: true; the input reads as it did. -/
def fnAclDifferUptoRow : OpenClaim := { program := "ytaoahghfmlegbaa", sum := "7f084be4d7db291d07468ba4f3fae4dc53eaa3a9e1c88bcd838457f2197cff6e", func := "loop.example/ternnet/laws.FnAclDiffer", spec := "fnAclDiffer", inPlace := ["sync/atomic.LoadUint32", "(*internal/sync.Mutex).Lock", "internal/race.Disable", "sync/atomic.CompareAndSwapInt32", "internal/race.Enable", "internal/race.Acquire", "(*internal/sync.Mutex).lockSlow", "internal/sync.runtime_canSpin", "internal/sync.runtime_doSpin", "internal/sync.throw", "internal/sync.runtime_nanotime", "internal/sync.runtime_SemacquireMutex", "sync/atomic.AddInt32", "(*internal/sync.Mutex).Unlock", "internal/race.ReleaseMerge", "(*internal/sync.Mutex).unlockSlow", "internal/sync.fatal", "internal/sync.runtime_Semrelease", "sync/atomic.StoreUint32"], unfollowed := true, recurses := true, plainKeys := false, apart := false, narrowed := true }
def FnAclDifferUptoSaid : Prop := fnAclDifferUptoRow.holds Try.pinned (OpenSpec.upto fnAclDifferSpec)

/-- 'laws.FnExactNetHas', WHERE WHAT IT READS IS OF BULK AT MOST 1048576: true; the input reads as it did. -/
def fnExactNetHasUptoRow : OpenClaim := { program := "ytaoahghfmlegbaa", sum := "7f084be4d7db291d07468ba4f3fae4dc53eaa3a9e1c88bcd838457f2197cff6e", func := "loop.example/ternnet/laws.FnExactNetHas", spec := "fnExactNetHas", plainKeys := false, apart := false, narrowed := true }
def FnExactNetHasUptoSaid : Prop := fnExactNetHasUptoRow.holds Try.pinned (OpenSpec.upto fnExactNetHasSpec)

/-- 'laws.FnExactNetIn', WHERE WHAT IT READS IS OF BULK AT MOST 1048576: true; the input reads as it did. -/
def fnExactNetInUptoRow : OpenClaim := { program := "ytaoahghfmlegbaa", sum := "7f084be4d7db291d07468ba4f3fae4dc53eaa3a9e1c88bcd838457f2197cff6e", func := "loop.example/ternnet/laws.FnExactNetIn", spec := "fnExactNetIn", plainKeys := false, apart := false, narrowed := true }
def FnExactNetInUptoSaid : Prop := fnExactNetInUptoRow.holds Try.pinned (OpenSpec.upto fnExactNetInSpec)

end Rows
end Go.Proofs.Ytaoahghfmlegbaa
