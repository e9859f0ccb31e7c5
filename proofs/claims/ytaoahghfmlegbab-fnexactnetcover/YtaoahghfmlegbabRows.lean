/-
  No cell of these rows narrows 'for every input' (looked for: loops, veiled, ifaces, maps, wideKeys, modest, calm, conditions, laid).
  DERIVED. THE GIVEN ROWS OF THIS SEAT. 7 by the template 'for every input the law returns true; each argument reads behind the call as it read before'; 0 by the template 'total and deterministic' (their statements: YtaoahghfmlegbabTotals.lean).
  GIVEN WITH THE SEED: the statements are not yours to turn. If you find one false, say at which input.
  Laid BY PROGRAM, IN A SANDBOX (cutbox-rows.mjs): the forced cells as the released guide's own fill.sh prints them over the translation 21bade6cfd365876… (all of the seat's roots in one cut). By AI agents, Wed Nov 11 2026. No macro, syntax, notation, axiom, sorry.
-/
import Derived.Test.YtaoahghfmlegbabChecked
import GoSem.Claim
import GoSem.ClaimJoined
import GoSem.ClaimMapViews
import Derived.JoinedTies
import Derived.KernelRfl
namespace Go.Proofs.Ytaoahghfmlegbab
/- THE CELL 'sum', in the pinned program and in every row, IS THE sha256 OF THE DUMP (.gsa) THAT YtaoahghfmlegbabProg.lean LOADS. Nothing in Lean hashes anything: it is a label: what it is worth is what the hold of that sum in a sandbox is worth. -/
noncomputable def Try.pinned : Pinned := { name := "ytaoahghfmlegbab", sum := "21bade6cfd365876fa930b51e375e06bed9f9ba84c14f15c26e1f0c923e83dee", checked := Try.checked }
namespace Rows
def none {H : Type} : Left H := { results := [], args := [] }

/-- 'laws.FnExactNetHalves': WHATEVER THE INPUT: true; the input reads as it did. -/
def fnExactNetHalvesSpec : ChangeSpec := { name := "fnExactNetHalves", fn := fun _ => fun
  | [d] => { results := [.lit (.bool true)], args := [d] }
  | _ => none }
def fnExactNetHalvesRow : OpenClaim := { program := "ytaoahghfmlegbab", sum := "21bade6cfd365876fa930b51e375e06bed9f9ba84c14f15c26e1f0c923e83dee", func := "loop.example/ternnet/laws.FnExactNetHalves", spec := "fnExactNetHalves", plainKeys := false, apart := false }
def FnExactNetHalvesSaid : Prop := fnExactNetHalvesRow.holds Try.pinned (OpenSpec.ofChange fnExactNetHalvesSpec)

/-- ITS FALSE NEIGHBOUR: 'it returns false'. Refute it at one input. -/
def fnExactNetHalvesWrong : ChangeSpec := { name := "fnExactNetHalves", fn := fun _ => fun
  | [d] => { results := [.lit (.bool false)], args := [d] }
  | _ => none }
def FnExactNetHalvesWrongFalsely : Prop := fnExactNetHalvesRow.holds Try.pinned (OpenSpec.ofChange fnExactNetHalvesWrong)

/-- 'laws.FnExactNetBest': WHATEVER THE INPUT: true; the input reads as it did. -/
def fnExactNetBestSpec : ChangeSpec := { name := "fnExactNetBest", fn := fun _ => fun
  | [d1, d2] => { results := [.lit (.bool true)], args := [d1, d2] }
  | _ => none }
def fnExactNetBestRow : OpenClaim := { program := "ytaoahghfmlegbab", sum := "21bade6cfd365876fa930b51e375e06bed9f9ba84c14f15c26e1f0c923e83dee", func := "loop.example/ternnet/laws.FnExactNetBest", spec := "fnExactNetBest", plainKeys := false, apart := false }
def FnExactNetBestSaid : Prop := fnExactNetBestRow.holds Try.pinned (OpenSpec.ofChange fnExactNetBestSpec)

/-- ITS FALSE NEIGHBOUR: 'it returns false'. Refute it at one input. -/
def fnExactNetBestWrong : ChangeSpec := { name := "fnExactNetBest", fn := fun _ => fun
  | [d1, d2] => { results := [.lit (.bool false)], args := [d1, d2] }
  | _ => none }
def FnExactNetBestWrongFalsely : Prop := fnExactNetBestRow.holds Try.pinned (OpenSpec.ofChange fnExactNetBestWrong)

/-- 'laws.FnExactNetCover': WHATEVER THE INPUT: true; the input reads as it did. -/
def fnExactNetCoverSpec : ChangeSpec := { name := "fnExactNetCover", fn := fun _ => fun
  | [d] => { results := [.lit (.bool true)], args := [d] }
  | _ => none }
def fnExactNetCoverRow : OpenClaim := { program := "ytaoahghfmlegbab", sum := "21bade6cfd365876fa930b51e375e06bed9f9ba84c14f15c26e1f0c923e83dee", func := "loop.example/ternnet/laws.FnExactNetCover", spec := "fnExactNetCover", unfollowed := true, recurses := true, plainKeys := false, apart := false }
def FnExactNetCoverSaid : Prop := fnExactNetCoverRow.holds Try.pinned (OpenSpec.ofChange fnExactNetCoverSpec)

/-- ITS FALSE NEIGHBOUR: 'it returns false'. Refute it at one input. -/
def fnExactNetCoverWrong : ChangeSpec := { name := "fnExactNetCover", fn := fun _ => fun
  | [d] => { results := [.lit (.bool false)], args := [d] }
  | _ => none }
def FnExactNetCoverWrongFalsely : Prop := fnExactNetCoverRow.holds Try.pinned (OpenSpec.ofChange fnExactNetCoverWrong)

/-- 'laws.FnExactNetWithout': WHATEVER THE INPUT: true; the input reads as it did. -/
def fnExactNetWithoutSpec : ChangeSpec := { name := "fnExactNetWithout", fn := fun _ => fun
  | [d1, d2] => { results := [.lit (.bool true)], args := [d1, d2] }
  | _ => none }
def fnExactNetWithoutRow : OpenClaim := { program := "ytaoahghfmlegbab", sum := "21bade6cfd365876fa930b51e375e06bed9f9ba84c14f15c26e1f0c923e83dee", func := "loop.example/ternnet/laws.FnExactNetWithout", spec := "fnExactNetWithout", unfollowed := true, recurses := true, plainKeys := false, apart := false }
def FnExactNetWithoutSaid : Prop := fnExactNetWithoutRow.holds Try.pinned (OpenSpec.ofChange fnExactNetWithoutSpec)

/-- ITS FALSE NEIGHBOUR: 'it returns false'. Refute it at one input. -/
def fnExactNetWithoutWrong : ChangeSpec := { name := "fnExactNetWithout", fn := fun _ => fun
  | [d1, d2] => { results := [.lit (.bool false)], args := [d1, d2] }
  | _ => none }
def FnExactNetWithoutWrongFalsely : Prop := fnExactNetWithoutRow.holds Try.pinned (OpenSpec.ofChange fnExactNetWithoutWrong)

/-- 'laws.FnExactAclOk': WHATEVER THE INPUT: true; the input reads as it did. -/
def fnExactAclOkSpec : ChangeSpec := { name := "fnExactAclOk", fn := fun _ => fun
  | [d] => { results := [.lit (.bool true)], args := [d] }
  | _ => none }
def fnExactAclOkRow : OpenClaim := { program := "ytaoahghfmlegbab", sum := "21bade6cfd365876fa930b51e375e06bed9f9ba84c14f15c26e1f0c923e83dee", func := "loop.example/ternnet/laws.FnExactAclOk", spec := "fnExactAclOk", plainKeys := false, apart := false }
def FnExactAclOkSaid : Prop := fnExactAclOkRow.holds Try.pinned (OpenSpec.ofChange fnExactAclOkSpec)

/-- ITS FALSE NEIGHBOUR: 'it returns false'. Refute it at one input. -/
def fnExactAclOkWrong : ChangeSpec := { name := "fnExactAclOk", fn := fun _ => fun
  | [d] => { results := [.lit (.bool false)], args := [d] }
  | _ => none }
def FnExactAclOkWrongFalsely : Prop := fnExactAclOkRow.holds Try.pinned (OpenSpec.ofChange fnExactAclOkWrong)

/-- 'laws.FnExactAclSays': WHATEVER THE INPUT: true; the input reads as it did. -/
def fnExactAclSaysSpec : ChangeSpec := { name := "fnExactAclSays", fn := fun _ => fun
  | [d1, d2] => { results := [.lit (.bool true)], args := [d1, d2] }
  | _ => none }
def fnExactAclSaysRow : OpenClaim := { program := "ytaoahghfmlegbab", sum := "21bade6cfd365876fa930b51e375e06bed9f9ba84c14f15c26e1f0c923e83dee", func := "loop.example/ternnet/laws.FnExactAclSays", spec := "fnExactAclSays", inPlace := ["sync/atomic.LoadUint32", "(*internal/sync.Mutex).Lock", "internal/race.Disable", "sync/atomic.CompareAndSwapInt32", "internal/race.Enable", "internal/race.Acquire", "(*internal/sync.Mutex).lockSlow", "internal/sync.runtime_canSpin", "internal/sync.runtime_doSpin", "internal/sync.throw", "internal/sync.runtime_nanotime", "internal/sync.runtime_SemacquireMutex", "sync/atomic.AddInt32", "(*internal/sync.Mutex).Unlock", "internal/race.ReleaseMerge", "(*internal/sync.Mutex).unlockSlow", "internal/sync.fatal", "internal/sync.runtime_Semrelease", "sync/atomic.StoreUint32"], unfollowed := true, recurses := true, plainKeys := false, apart := false }
def FnExactAclSaysSaid : Prop := fnExactAclSaysRow.holds Try.pinned (OpenSpec.ofChange fnExactAclSaysSpec)

/-- ITS FALSE NEIGHBOUR: 'it returns false'. Refute it at one input. -/
def fnExactAclSaysWrong : ChangeSpec := { name := "fnExactAclSays", fn := fun _ => fun
  | [d1, d2] => { results := [.lit (.bool false)], args := [d1, d2] }
  | _ => none }
def FnExactAclSaysWrongFalsely : Prop := fnExactAclSaysRow.holds Try.pinned (OpenSpec.ofChange fnExactAclSaysWrong)

/-- 'laws.FnExactAclWitness': WHATEVER THE INPUT: true; the input reads as it did. -/
def fnExactAclWitnessSpec : ChangeSpec := { name := "fnExactAclWitness", fn := fun _ => fun
  | [d1, d2] => { results := [.lit (.bool true)], args := [d1, d2] }
  | _ => none }
def fnExactAclWitnessRow : OpenClaim := { program := "ytaoahghfmlegbab", sum := "21bade6cfd365876fa930b51e375e06bed9f9ba84c14f15c26e1f0c923e83dee", func := "loop.example/ternnet/laws.FnExactAclWitness", spec := "fnExactAclWitness", inPlace := ["sync/atomic.LoadUint32", "(*internal/sync.Mutex).Lock", "internal/race.Disable", "sync/atomic.CompareAndSwapInt32", "internal/race.Enable", "internal/race.Acquire", "(*internal/sync.Mutex).lockSlow", "internal/sync.runtime_canSpin", "internal/sync.runtime_doSpin", "internal/sync.throw", "internal/sync.runtime_nanotime", "internal/sync.runtime_SemacquireMutex", "sync/atomic.AddInt32", "(*internal/sync.Mutex).Unlock", "internal/race.ReleaseMerge", "(*internal/sync.Mutex).unlockSlow", "internal/sync.fatal", "internal/sync.runtime_Semrelease", "sync/atomic.StoreUint32"], unfollowed := true, recurses := true, plainKeys := false, apart := false }
def FnExactAclWitnessSaid : Prop := fnExactAclWitnessRow.holds Try.pinned (OpenSpec.ofChange fnExactAclWitnessSpec)

/-- ITS FALSE NEIGHBOUR: 'it returns false'. Refute it at one input. -/
def fnExactAclWitnessWrong : ChangeSpec := { name := "fnExactAclWitness", fn := fun _ => fun
  | [d1, d2] => { results := [.lit (.bool false)], args := [d1, d2] }
  | _ => none }
def FnExactAclWitnessWrongFalsely : Prop := fnExactAclWitnessRow.holds Try.pinned (OpenSpec.ofChange fnExactAclWitnessWrong)

/- THE SECOND FORM. 'bulk': how many values and letters a reading holds, each counted each time it is reached (what is shared counts as often as it is met; a slice's spare places count too). A statement '..UptoSaid' is the law's where the arguments, and the package variables that the reading takes, are together of bulk at most 1048576: NARROWER than '..Said'. Prove '..Said' where nothing that the law and all that it calls make is longer than what came in: it says more and counts as full. Else prove '..UptoSaid'. A law counts once. -/
mutual
def uptoBulk {H : Type} : DataW H → Nat
  | .lit (.string bytes) => bytes.length + 1
  | .lit _ => 1
  | .nil => 1
  | .ptr d => uptoBulk d + 1
  | .slice elems spare => uptoBulkAll elems + uptoBulkAll spare + 1
  | .agg parts => uptoBulkAll parts + 1
  | .iface _ d => uptoBulk d + 1
  | .map entries => uptoBulkEntries entries + 1
  | .held _ => 1
def uptoBulkAll {H : Type} : List (DataW H) → Nat
  | [] => 0
  | d :: r => uptoBulk d + uptoBulkAll r
def uptoBulkEntries {H : Type} : List (Lit × DataW H) → Nat
  | [] => 0
  | x :: r => uptoBulkEntry x + uptoBulkEntries r
def uptoBulkEntry {H : Type} : Lit × DataW H → Nat
  | (.string bytes, d) => bytes.length + uptoBulk d + 1
  | (_, d) => uptoBulk d + 1
 end
def uptoSmall : (H : Type) → List (DataW H) → Bool := fun _ ds => decide (uptoBulkAll ds ≤ 1048576)
def OpenSpec.upto (s : _root_.Go.ChangeSpec) : _root_.Go.OpenSpec := { _root_.Go.OpenSpec.ofChange s with cond := some uptoSmall }

/-- 'laws.FnExactNetHalves', WHERE WHAT IT READS IS OF BULK AT MOST 1048576: true; the input reads as it did. -/
def fnExactNetHalvesUptoRow : OpenClaim := { program := "ytaoahghfmlegbab", sum := "21bade6cfd365876fa930b51e375e06bed9f9ba84c14f15c26e1f0c923e83dee", func := "loop.example/ternnet/laws.FnExactNetHalves", spec := "fnExactNetHalves", plainKeys := false, apart := false, narrowed := true }
def FnExactNetHalvesUptoSaid : Prop := fnExactNetHalvesUptoRow.holds Try.pinned (OpenSpec.upto fnExactNetHalvesSpec)

/-- 'laws.FnExactNetBest', WHERE WHAT IT READS IS OF BULK AT MOST 1048576: true; the input reads as it did. -/
def fnExactNetBestUptoRow : OpenClaim := { program := "ytaoahghfmlegbab", sum := "21bade6cfd365876fa930b51e375e06bed9f9ba84c14f15c26e1f0c923e83dee", func := "loop.example/ternnet/laws.FnExactNetBest", spec := "fnExactNetBest", plainKeys := false, apart := false, narrowed := true }
def FnExactNetBestUptoSaid : Prop := fnExactNetBestUptoRow.holds Try.pinned (OpenSpec.upto fnExactNetBestSpec)

/-- 'laws.FnExactNetCover', WHERE WHAT IT READS IS OF BULK AT MOST 1048576: true; the input reads as it did. -/
def fnExactNetCoverUptoRow : OpenClaim := { program := "ytaoahghfmlegbab", sum := "21bade6cfd365876fa930b51e375e06bed9f9ba84c14f15c26e1f0c923e83dee", func := "loop.example/ternnet/laws.FnExactNetCover", spec := "fnExactNetCover", unfollowed := true, recurses := true, plainKeys := false, apart := false, narrowed := true }
def FnExactNetCoverUptoSaid : Prop := fnExactNetCoverUptoRow.holds Try.pinned (OpenSpec.upto fnExactNetCoverSpec)

/-- 'laws.FnExactNetWithout', WHERE WHAT IT READS IS OF BULK AT MOST 1048576: true; the input reads as it did. -/
def fnExactNetWithoutUptoRow : OpenClaim := { program := "ytaoahghfmlegbab", sum := "21bade6cfd365876fa930b51e375e06bed9f9ba84c14f15c26e1f0c923e83dee", func := "loop.example/ternnet/laws.FnExactNetWithout", spec := "fnExactNetWithout", unfollowed := true, recurses := true, plainKeys := false, apart := false, narrowed := true }
def FnExactNetWithoutUptoSaid : Prop := fnExactNetWithoutUptoRow.holds Try.pinned (OpenSpec.upto fnExactNetWithoutSpec)

/-- 'laws.FnExactAclOk', WHERE WHAT IT READS IS OF BULK AT MOST 1048576: true; the input reads as it did. -/
def fnExactAclOkUptoRow : OpenClaim := { program := "ytaoahghfmlegbab", sum := "21bade6cfd365876fa930b51e375e06bed9f9ba84c14f15c26e1f0c923e83dee", func := "loop.example/ternnet/laws.FnExactAclOk", spec := "fnExactAclOk", plainKeys := false, apart := false, narrowed := true }
def FnExactAclOkUptoSaid : Prop := fnExactAclOkUptoRow.holds Try.pinned (OpenSpec.upto fnExactAclOkSpec)

/-- 'laws.FnExactAclSays', WHERE WHAT IT READS IS OF BULK AT MOST 1048576: true; the input reads as it did. -/
def fnExactAclSaysUptoRow : OpenClaim := { program := "ytaoahghfmlegbab", sum := "21bade6cfd365876fa930b51e375e06bed9f9ba84c14f15c26e1f0c923e83dee", func := "loop.example/ternnet/laws.FnExactAclSays", spec := "fnExactAclSays", inPlace := ["sync/atomic.LoadUint32", "(*internal/sync.Mutex).Lock", "internal/race.Disable", "sync/atomic.CompareAndSwapInt32", "internal/race.Enable", "internal/race.Acquire", "(*internal/sync.Mutex).lockSlow", "internal/sync.runtime_canSpin", "internal/sync.runtime_doSpin", "internal/sync.throw", "internal/sync.runtime_nanotime", "internal/sync.runtime_SemacquireMutex", "sync/atomic.AddInt32", "(*internal/sync.Mutex).Unlock", "internal/race.ReleaseMerge", "(*internal/sync.Mutex).unlockSlow", "internal/sync.fatal", "internal/sync.runtime_Semrelease", "sync/atomic.StoreUint32"], unfollowed := true, recurses := true, plainKeys := false, apart := false, narrowed := true }
def FnExactAclSaysUptoSaid : Prop := fnExactAclSaysUptoRow.holds Try.pinned (OpenSpec.upto fnExactAclSaysSpec)

/-- 'laws.FnExactAclWitness', WHERE WHAT IT READS IS OF BULK AT MOST 1048576: true; the input reads as it did. -/
def fnExactAclWitnessUptoRow : OpenClaim := { program := "ytaoahghfmlegbab", sum := "21bade6cfd365876fa930b51e375e06bed9f9ba84c14f15c26e1f0c923e83dee", func := "loop.example/ternnet/laws.FnExactAclWitness", spec := "fnExactAclWitness", inPlace := ["sync/atomic.LoadUint32", "(*internal/sync.Mutex).Lock", "internal/race.Disable", "sync/atomic.CompareAndSwapInt32", "internal/race.Enable", "internal/race.Acquire", "(*internal/sync.Mutex).lockSlow", "internal/sync.runtime_canSpin", "internal/sync.runtime_doSpin", "internal/sync.throw", "internal/sync.runtime_nanotime", "internal/sync.runtime_SemacquireMutex", "sync/atomic.AddInt32", "(*internal/sync.Mutex).Unlock", "internal/race.ReleaseMerge", "(*internal/sync.Mutex).unlockSlow", "internal/sync.fatal", "internal/sync.runtime_Semrelease", "sync/atomic.StoreUint32"], unfollowed := true, recurses := true, plainKeys := false, apart := false, narrowed := true }
def FnExactAclWitnessUptoSaid : Prop := fnExactAclWitnessUptoRow.holds Try.pinned (OpenSpec.upto fnExactAclWitnessSpec)

end Rows
end Go.Proofs.Ytaoahghfmlegbab
