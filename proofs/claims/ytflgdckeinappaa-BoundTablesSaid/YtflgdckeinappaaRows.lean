/-
  No cell of these rows narrows 'for every input' (looked for: loops, veiled, ifaces, maps, wideKeys, modest, calm, conditions, laid).
  DERIVED. THE GIVEN ROWS OF THIS SEAT. 12 by the template 'for every input the law returns true; each argument reads behind the call as it read before'; 0 by the template 'total and deterministic' (their statements: YtflgdckeinappaaTotals.lean).
  GIVEN WITH THE SEED: the statements are not yours to turn. If you find one false, say at which input.
  Laid BY PROGRAM, IN A SANDBOX (cutbox-rows.mjs): the forced cells as the released guide's own fill.sh prints them over the translation 9aece9d42a3c59cf… (all of the seat's roots in one cut). By AI agents, Wed Nov 11 2026. No macro, syntax, notation, axiom, sorry.
-/
import Derived.Test.YtflgdckeinappaaChecked
import GoSem.Claim
import GoSem.ClaimJoined
import GoSem.ClaimMapViews
import Derived.JoinedTies
import Derived.KernelRfl
namespace Go.Proofs.Ytflgdckeinappaa
/- THE CELL 'sum', in the pinned program and in every row, IS THE sha256 OF THE DUMP (.gsa) THAT YtflgdckeinappaaProg.lean LOADS. Nothing in Lean hashes anything: it is a label: what it is worth is what the hold of that sum in a sandbox is worth. -/
noncomputable def Try.pinned : Pinned := { name := "ytflgdckeinappaa", sum := "9aece9d42a3c59cf55aa2f80f4bed1975fa67530587cbd296b8605d641f6458a", checked := Try.checked }
namespace Rows
def none {H : Type} : Left H := { results := [], args := [] }

/-- 'ballonetlaw01.BoundSpans': WHATEVER THE INPUT: true; the input reads as it did. -/
def boundSpansSpec : ChangeSpec := { name := "boundSpans", fn := fun _ => fun
  | [d1, d2] => { results := [.lit (.bool true)], args := [d1, d2] }
  | _ => none }
def boundSpansRow : OpenClaim := { program := "ytflgdckeinappaa", sum := "9aece9d42a3c59cf55aa2f80f4bed1975fa67530587cbd296b8605d641f6458a", func := "ballonet/ballonetlaw01.BoundSpans", spec := "boundSpans", named := ["math/bits.divideError", "math/bits.overflowError"], apart := false }
def BoundSpansSaid : Prop := boundSpansRow.holds Try.pinned (OpenSpec.ofChange boundSpansSpec)

/-- ITS FALSE NEIGHBOUR: 'it returns false'. Refute it at one input. -/
def boundSpansWrong : ChangeSpec := { name := "boundSpans", fn := fun _ => fun
  | [d1, d2] => { results := [.lit (.bool false)], args := [d1, d2] }
  | _ => none }
def BoundSpansWrongFalsely : Prop := boundSpansRow.holds Try.pinned (OpenSpec.ofChange boundSpansWrong)

/-- 'ballonetlaw01.BoundOvers': WHATEVER THE INPUT: true; the input reads as it did. -/
def boundOversSpec : ChangeSpec := { name := "boundOvers", fn := fun _ => fun
  | [d1, d2, d3] => { results := [.lit (.bool true)], args := [d1, d2, d3] }
  | _ => none }
def boundOversRow : OpenClaim := { program := "ytflgdckeinappaa", sum := "9aece9d42a3c59cf55aa2f80f4bed1975fa67530587cbd296b8605d641f6458a", func := "ballonet/ballonetlaw01.BoundOvers", spec := "boundOvers", unfollowed := true, recurses := true, named := ["math/bits.divideError", "math/bits.overflowError"], apart := false }
def BoundOversSaid : Prop := boundOversRow.holds Try.pinned (OpenSpec.ofChange boundOversSpec)

/-- ITS FALSE NEIGHBOUR: 'it returns false'. Refute it at one input. -/
def boundOversWrong : ChangeSpec := { name := "boundOvers", fn := fun _ => fun
  | [d1, d2, d3] => { results := [.lit (.bool false)], args := [d1, d2, d3] }
  | _ => none }
def BoundOversWrongFalsely : Prop := boundOversRow.holds Try.pinned (OpenSpec.ofChange boundOversWrong)

/-- 'ballonetlaw01.BoundTables': WHATEVER THE INPUT: true; the input reads as it did. -/
def boundTablesSpec : ChangeSpec := { name := "boundTables", fn := fun _ => fun
  | [d1, d2, d3] => { results := [.lit (.bool true)], args := [d1, d2, d3] }
  | _ => none }
def boundTablesRow : OpenClaim := { program := "ytflgdckeinappaa", sum := "9aece9d42a3c59cf55aa2f80f4bed1975fa67530587cbd296b8605d641f6458a", func := "ballonet/ballonetlaw01.BoundTables", spec := "boundTables", unfollowed := true, recurses := true, apart := false }
def BoundTablesSaid : Prop := boundTablesRow.holds Try.pinned (OpenSpec.ofChange boundTablesSpec)

/-- ITS FALSE NEIGHBOUR: 'it returns false'. Refute it at one input. -/
def boundTablesWrong : ChangeSpec := { name := "boundTables", fn := fun _ => fun
  | [d1, d2, d3] => { results := [.lit (.bool false)], args := [d1, d2, d3] }
  | _ => none }
def BoundTablesWrongFalsely : Prop := boundTablesRow.holds Try.pinned (OpenSpec.ofChange boundTablesWrong)

/-- 'ballonetlaw02.AirSpeeds': WHATEVER THE INPUT: true; the input reads as it did. -/
def airSpeedsSpec : ChangeSpec := { name := "airSpeeds", fn := fun _ => fun
  | [d1, d2, d3] => { results := [.lit (.bool true)], args := [d1, d2, d3] }
  | _ => none }
def airSpeedsRow : OpenClaim := { program := "ytflgdckeinappaa", sum := "9aece9d42a3c59cf55aa2f80f4bed1975fa67530587cbd296b8605d641f6458a", func := "ballonet/ballonetlaw02.AirSpeeds", spec := "airSpeeds", unfollowed := true, recurses := true, named := ["math/bits.divideError", "math/bits.overflowError"], apart := false }
def AirSpeedsSaid : Prop := airSpeedsRow.holds Try.pinned (OpenSpec.ofChange airSpeedsSpec)

/-- ITS FALSE NEIGHBOUR: 'it returns false'. Refute it at one input. -/
def airSpeedsWrong : ChangeSpec := { name := "airSpeeds", fn := fun _ => fun
  | [d1, d2, d3] => { results := [.lit (.bool false)], args := [d1, d2, d3] }
  | _ => none }
def AirSpeedsWrongFalsely : Prop := airSpeedsRow.holds Try.pinned (OpenSpec.ofChange airSpeedsWrong)

/-- 'ballonetlaw02.AirNews': WHATEVER THE INPUT: true; the input reads as it did. -/
def airNewsSpec : ChangeSpec := { name := "airNews", fn := fun _ => fun
  | [d1, d2, d3, d4, d5, d6] => { results := [.lit (.bool true)], args := [d1, d2, d3, d4, d5, d6] }
  | _ => none }
def airNewsRow : OpenClaim := { program := "ytflgdckeinappaa", sum := "9aece9d42a3c59cf55aa2f80f4bed1975fa67530587cbd296b8605d641f6458a", func := "ballonet/ballonetlaw02.AirNews", spec := "airNews", unfollowed := true, recurses := true, apart := false }
def AirNewsSaid : Prop := airNewsRow.holds Try.pinned (OpenSpec.ofChange airNewsSpec)

/-- ITS FALSE NEIGHBOUR: 'it returns false'. Refute it at one input. -/
def airNewsWrong : ChangeSpec := { name := "airNews", fn := fun _ => fun
  | [d1, d2, d3, d4, d5, d6] => { results := [.lit (.bool false)], args := [d1, d2, d3, d4, d5, d6] }
  | _ => none }
def AirNewsWrongFalsely : Prop := airNewsRow.holds Try.pinned (OpenSpec.ofChange airNewsWrong)

/-- 'ballonetlaw02.AirWinds': WHATEVER THE INPUT: true; the input reads as it did. -/
def airWindsSpec : ChangeSpec := { name := "airWinds", fn := fun _ => fun
  | [d1, d2] => { results := [.lit (.bool true)], args := [d1, d2] }
  | _ => none }
def airWindsRow : OpenClaim := { program := "ytflgdckeinappaa", sum := "9aece9d42a3c59cf55aa2f80f4bed1975fa67530587cbd296b8605d641f6458a", func := "ballonet/ballonetlaw02.AirWinds", spec := "airWinds", unfollowed := true, recurses := true, apart := false }
def AirWindsSaid : Prop := airWindsRow.holds Try.pinned (OpenSpec.ofChange airWindsSpec)

/-- ITS FALSE NEIGHBOUR: 'it returns false'. Refute it at one input. -/
def airWindsWrong : ChangeSpec := { name := "airWinds", fn := fun _ => fun
  | [d1, d2] => { results := [.lit (.bool false)], args := [d1, d2] }
  | _ => none }
def AirWindsWrongFalsely : Prop := airWindsRow.holds Try.pinned (OpenSpec.ofChange airWindsWrong)

/-- 'ballonetlaw01.BoundTrue': WHATEVER THE INPUT: true; the input reads as it did. -/
def boundTrueSpec : ChangeSpec := { name := "boundTrue", fn := fun _ => fun
  | [d1, d2, d3, d4] => { results := [.lit (.bool true)], args := [d1, d2, d3, d4] }
  | _ => none }
def boundTrueRow : OpenClaim := { program := "ytflgdckeinappaa", sum := "9aece9d42a3c59cf55aa2f80f4bed1975fa67530587cbd296b8605d641f6458a", func := "ballonet/ballonetlaw01.BoundTrue", spec := "boundTrue", unfollowed := true, recurses := true, named := ["math/bits.divideError", "math/bits.overflowError"], apart := false }
def BoundTrueSaid : Prop := boundTrueRow.holds Try.pinned (OpenSpec.ofChange boundTrueSpec)

/-- ITS FALSE NEIGHBOUR: 'it returns false'. Refute it at one input. -/
def boundTrueWrong : ChangeSpec := { name := "boundTrue", fn := fun _ => fun
  | [d1, d2, d3, d4] => { results := [.lit (.bool false)], args := [d1, d2, d3, d4] }
  | _ => none }
def BoundTrueWrongFalsely : Prop := boundTrueRow.holds Try.pinned (OpenSpec.ofChange boundTrueWrong)

/-- 'ballonetlaw01.BoundShares': WHATEVER THE INPUT: true; the input reads as it did. -/
def boundSharesSpec : ChangeSpec := { name := "boundShares", fn := fun _ => fun
  | [d1, d2, d3, d4, d5, d6] => { results := [.lit (.bool true)], args := [d1, d2, d3, d4, d5, d6] }
  | _ => none }
def boundSharesRow : OpenClaim := { program := "ytflgdckeinappaa", sum := "9aece9d42a3c59cf55aa2f80f4bed1975fa67530587cbd296b8605d641f6458a", func := "ballonet/ballonetlaw01.BoundShares", spec := "boundShares", unfollowed := true, recurses := true, named := ["math/bits.divideError", "math/bits.overflowError"], apart := false }
def BoundSharesSaid : Prop := boundSharesRow.holds Try.pinned (OpenSpec.ofChange boundSharesSpec)

/-- ITS FALSE NEIGHBOUR: 'it returns false'. Refute it at one input. -/
def boundSharesWrong : ChangeSpec := { name := "boundShares", fn := fun _ => fun
  | [d1, d2, d3, d4, d5, d6] => { results := [.lit (.bool false)], args := [d1, d2, d3, d4, d5, d6] }
  | _ => none }
def BoundSharesWrongFalsely : Prop := boundSharesRow.holds Try.pinned (OpenSpec.ofChange boundSharesWrong)

/-- 'ballonetlaw01.BoundNarrow': WHATEVER THE INPUT: true; the input reads as it did. -/
def boundNarrowSpec : ChangeSpec := { name := "boundNarrow", fn := fun _ => fun
  | [d1, d2, d3, d4, d5, d6] => { results := [.lit (.bool true)], args := [d1, d2, d3, d4, d5, d6] }
  | _ => none }
def boundNarrowRow : OpenClaim := { program := "ytflgdckeinappaa", sum := "9aece9d42a3c59cf55aa2f80f4bed1975fa67530587cbd296b8605d641f6458a", func := "ballonet/ballonetlaw01.BoundNarrow", spec := "boundNarrow", unfollowed := true, recurses := true, named := ["math/bits.divideError", "math/bits.overflowError"], apart := false }
def BoundNarrowSaid : Prop := boundNarrowRow.holds Try.pinned (OpenSpec.ofChange boundNarrowSpec)

/-- ITS FALSE NEIGHBOUR: 'it returns false'. Refute it at one input. -/
def boundNarrowWrong : ChangeSpec := { name := "boundNarrow", fn := fun _ => fun
  | [d1, d2, d3, d4, d5, d6] => { results := [.lit (.bool false)], args := [d1, d2, d3, d4, d5, d6] }
  | _ => none }
def BoundNarrowWrongFalsely : Prop := boundNarrowRow.holds Try.pinned (OpenSpec.ofChange boundNarrowWrong)

/-- 'ballonetlaw01.BoundMeets': WHATEVER THE INPUT: true; the input reads as it did. -/
def boundMeetsSpec : ChangeSpec := { name := "boundMeets", fn := fun _ => fun
  | [d1, d2, d3] => { results := [.lit (.bool true)], args := [d1, d2, d3] }
  | _ => none }
def boundMeetsRow : OpenClaim := { program := "ytflgdckeinappaa", sum := "9aece9d42a3c59cf55aa2f80f4bed1975fa67530587cbd296b8605d641f6458a", func := "ballonet/ballonetlaw01.BoundMeets", spec := "boundMeets", unfollowed := true, recurses := true, named := ["math/bits.divideError", "math/bits.overflowError"], apart := false }
def BoundMeetsSaid : Prop := boundMeetsRow.holds Try.pinned (OpenSpec.ofChange boundMeetsSpec)

/-- ITS FALSE NEIGHBOUR: 'it returns false'. Refute it at one input. -/
def boundMeetsWrong : ChangeSpec := { name := "boundMeets", fn := fun _ => fun
  | [d1, d2, d3] => { results := [.lit (.bool false)], args := [d1, d2, d3] }
  | _ => none }
def BoundMeetsWrongFalsely : Prop := boundMeetsRow.holds Try.pinned (OpenSpec.ofChange boundMeetsWrong)

/-- 'ballonetlaw01.BoundRoots': WHATEVER THE INPUT: true; the input reads as it did. -/
def boundRootsSpec : ChangeSpec := { name := "boundRoots", fn := fun _ => fun
  | [d] => { results := [.lit (.bool true)], args := [d] }
  | _ => none }
def boundRootsRow : OpenClaim := { program := "ytflgdckeinappaa", sum := "9aece9d42a3c59cf55aa2f80f4bed1975fa67530587cbd296b8605d641f6458a", func := "ballonet/ballonetlaw01.BoundRoots", spec := "boundRoots", unfollowed := true, recurses := true, named := ["math/bits.divideError", "math/bits.overflowError"], apart := false }
def BoundRootsSaid : Prop := boundRootsRow.holds Try.pinned (OpenSpec.ofChange boundRootsSpec)

/-- ITS FALSE NEIGHBOUR: 'it returns false'. Refute it at one input. -/
def boundRootsWrong : ChangeSpec := { name := "boundRoots", fn := fun _ => fun
  | [d] => { results := [.lit (.bool false)], args := [d] }
  | _ => none }
def BoundRootsWrongFalsely : Prop := boundRootsRow.holds Try.pinned (OpenSpec.ofChange boundRootsWrong)

/-- 'ballonetlaw01.BoundWhere': WHATEVER THE INPUT: true; the input reads as it did. -/
def boundWhereSpec : ChangeSpec := { name := "boundWhere", fn := fun _ => fun
  | [d1, d2, d3, d4] => { results := [.lit (.bool true)], args := [d1, d2, d3, d4] }
  | _ => none }
def boundWhereRow : OpenClaim := { program := "ytflgdckeinappaa", sum := "9aece9d42a3c59cf55aa2f80f4bed1975fa67530587cbd296b8605d641f6458a", func := "ballonet/ballonetlaw01.BoundWhere", spec := "boundWhere", unfollowed := true, recurses := true, named := ["math/bits.divideError", "math/bits.overflowError"], apart := false }
def BoundWhereSaid : Prop := boundWhereRow.holds Try.pinned (OpenSpec.ofChange boundWhereSpec)

/-- ITS FALSE NEIGHBOUR: 'it returns false'. Refute it at one input. -/
def boundWhereWrong : ChangeSpec := { name := "boundWhere", fn := fun _ => fun
  | [d1, d2, d3, d4] => { results := [.lit (.bool false)], args := [d1, d2, d3, d4] }
  | _ => none }
def BoundWhereWrongFalsely : Prop := boundWhereRow.holds Try.pinned (OpenSpec.ofChange boundWhereWrong)

/- THE SECOND FORM. 'bulk': how many values and letters a reading holds, each counted each time it is reached (what is shared counts as often as it is met; a slice's spare places count too). A statement '..UptoSaid' is the law's where the arguments, and the package variables that the reading takes, are together of bulk at most 1048576: NARROWER than '..Said'. Prove '..Said' where nothing that the law and all that it calls make is longer than what came in: it says more and counts as full. Else prove '..UptoSaid'. A law counts once. -/
mutual
def uptoBulk {H : Type} : DataW H → Nat
  | .lit (.string bytes) => bytes.length + 1
  | .lit _ => 1
  | .nil => 1
  | .ptr d => uptoBulk d + 1
  | .slice elems spare => uptoBulkAll elems + uptoBulkAll spare + 1
  | .agg parts => uptoBulkAll parts + 1
  | .iface _ d => uptoBulk d + 1
  | .map entries => uptoBulkEntries entries + 1
  | .held _ => 1
def uptoBulkAll {H : Type} : List (DataW H) → Nat
  | [] => 0
  | d :: r => uptoBulk d + uptoBulkAll r
def uptoBulkEntries {H : Type} : List (Lit × DataW H) → Nat
  | [] => 0
  | x :: r => uptoBulkEntry x + uptoBulkEntries r
def uptoBulkEntry {H : Type} : Lit × DataW H → Nat
  | (.string bytes, d) => bytes.length + uptoBulk d + 1
  | (_, d) => uptoBulk d + 1
 end
def uptoSmall : (H : Type) → List (DataW H) → Bool := fun _ ds => decide (uptoBulkAll ds ≤ 1048576)
def OpenSpec.upto (s : _root_.Go.ChangeSpec) : _root_.Go.OpenSpec := { _root_.Go.OpenSpec.ofChange s with cond := some uptoSmall }

/-- 'ballonetlaw01.BoundSpans', WHERE WHAT IT READS IS OF BULK AT MOST 1048576: true; the input reads as it did. -/
def boundSpansUptoRow : OpenClaim := { program := "ytflgdckeinappaa", sum := "9aece9d42a3c59cf55aa2f80f4bed1975fa67530587cbd296b8605d641f6458a", func := "ballonet/ballonetlaw01.BoundSpans", spec := "boundSpans", named := ["math/bits.divideError", "math/bits.overflowError"], apart := false, narrowed := true }
def BoundSpansUptoSaid : Prop := boundSpansUptoRow.holds Try.pinned (OpenSpec.upto boundSpansSpec)

/-- 'ballonetlaw01.BoundOvers', WHERE WHAT IT READS IS OF BULK AT MOST 1048576: true; the input reads as it did. -/
def boundOversUptoRow : OpenClaim := { program := "ytflgdckeinappaa", sum := "9aece9d42a3c59cf55aa2f80f4bed1975fa67530587cbd296b8605d641f6458a", func := "ballonet/ballonetlaw01.BoundOvers", spec := "boundOvers", unfollowed := true, recurses := true, named := ["math/bits.divideError", "math/bits.overflowError"], apart := false, narrowed := true }
def BoundOversUptoSaid : Prop := boundOversUptoRow.holds Try.pinned (OpenSpec.upto boundOversSpec)

/-- 'ballonetlaw01.BoundTables', WHERE WHAT IT READS IS OF BULK AT MOST 1048576: true; the input reads as it did. -/
def boundTablesUptoRow : OpenClaim := { program := "ytflgdckeinappaa", sum := "9aece9d42a3c59cf55aa2f80f4bed1975fa67530587cbd296b8605d641f6458a", func := "ballonet/ballonetlaw01.BoundTables", spec := "boundTables", unfollowed := true, recurses := true, apart := false, narrowed := true }
def BoundTablesUptoSaid : Prop := boundTablesUptoRow.holds Try.pinned (OpenSpec.upto boundTablesSpec)

/-- 'ballonetlaw02.AirSpeeds', WHERE WHAT IT READS IS OF BULK AT MOST 1048576: true; the input reads as it did. -/
def airSpeedsUptoRow : OpenClaim := { program := "ytflgdckeinappaa", sum := "9aece9d42a3c59cf55aa2f80f4bed1975fa67530587cbd296b8605d641f6458a", func := "ballonet/ballonetlaw02.AirSpeeds", spec := "airSpeeds", unfollowed := true, recurses := true, named := ["math/bits.divideError", "math/bits.overflowError"], apart := false, narrowed := true }
def AirSpeedsUptoSaid : Prop := airSpeedsUptoRow.holds Try.pinned (OpenSpec.upto airSpeedsSpec)

/-- 'ballonetlaw02.AirNews', WHERE WHAT IT READS IS OF BULK AT MOST 1048576: true; the input reads as it did. -/
def airNewsUptoRow : OpenClaim := { program := "ytflgdckeinappaa", sum := "9aece9d42a3c59cf55aa2f80f4bed1975fa67530587cbd296b8605d641f6458a", func := "ballonet/ballonetlaw02.AirNews", spec := "airNews", unfollowed := true, recurses := true, apart := false, narrowed := true }
def AirNewsUptoSaid : Prop := airNewsUptoRow.holds Try.pinned (OpenSpec.upto airNewsSpec)

/-- 'ballonetlaw02.AirWinds', WHERE WHAT IT READS IS OF BULK AT MOST 1048576: true; the input reads as it did. -/
def airWindsUptoRow : OpenClaim := { program := "ytflgdckeinappaa", sum := "9aece9d42a3c59cf55aa2f80f4bed1975fa67530587cbd296b8605d641f6458a", func := "ballonet/ballonetlaw02.AirWinds", spec := "airWinds", unfollowed := true, recurses := true, apart := false, narrowed := true }
def AirWindsUptoSaid : Prop := airWindsUptoRow.holds Try.pinned (OpenSpec.upto airWindsSpec)

/-- 'ballonetlaw01.BoundTrue', WHERE WHAT IT READS IS OF BULK AT MOST 1048576: true; the input reads as it did. -/
def boundTrueUptoRow : OpenClaim := { program := "ytflgdckeinappaa", sum := "9aece9d42a3c59cf55aa2f80f4bed1975fa67530587cbd296b8605d641f6458a", func := "ballonet/ballonetlaw01.BoundTrue", spec := "boundTrue", unfollowed := true, recurses := true, named := ["math/bits.divideError", "math/bits.overflowError"], apart := false, narrowed := true }
def BoundTrueUptoSaid : Prop := boundTrueUptoRow.holds Try.pinned (OpenSpec.upto boundTrueSpec)

/-- 'ballonetlaw01.BoundShares', WHERE WHAT IT READS IS OF BULK AT MOST 1048576: true; the input reads as it did. -/
def boundSharesUptoRow : OpenClaim := { program := "ytflgdckeinappaa", sum := "9aece9d42a3c59cf55aa2f80f4bed1975fa67530587cbd296b8605d641f6458a", func := "ballonet/ballonetlaw01.BoundShares", spec := "boundShares", unfollowed := true, recurses := true, named := ["math/bits.divideError", "math/bits.overflowError"], apart := false, narrowed := true }
def BoundSharesUptoSaid : Prop := boundSharesUptoRow.holds Try.pinned (OpenSpec.upto boundSharesSpec)

/-- 'ballonetlaw01.BoundNarrow', WHERE WHAT IT READS IS OF BULK AT MOST 1048576: true; the input reads as it did. -/
def boundNarrowUptoRow : OpenClaim := { program := "ytflgdckeinappaa", sum := "9aece9d42a3c59cf55aa2f80f4bed1975fa67530587cbd296b8605d641f6458a", func := "ballonet/ballonetlaw01.BoundNarrow", spec := "boundNarrow", unfollowed := true, recurses := true, named := ["math/bits.divideError", "math/bits.overflowError"], apart := false, narrowed := true }
def BoundNarrowUptoSaid : Prop := boundNarrowUptoRow.holds Try.pinned (OpenSpec.upto boundNarrowSpec)

/-- 'ballonetlaw01.BoundMeets', WHERE WHAT IT READS IS OF BULK AT MOST 1048576: true; the input reads as it did. -/
def boundMeetsUptoRow : OpenClaim := { program := "ytflgdckeinappaa", sum := "9aece9d42a3c59cf55aa2f80f4bed1975fa67530587cbd296b8605d641f6458a", func := "ballonet/ballonetlaw01.BoundMeets", spec := "boundMeets", unfollowed := true, recurses := true, named := ["math/bits.divideError", "math/bits.overflowError"], apart := false, narrowed := true }
def BoundMeetsUptoSaid : Prop := boundMeetsUptoRow.holds Try.pinned (OpenSpec.upto boundMeetsSpec)

/-- 'ballonetlaw01.BoundRoots', WHERE WHAT IT READS IS OF BULK AT MOST 1048576: true; the input reads as it did. -/
def boundRootsUptoRow : OpenClaim := { program := "ytflgdckeinappaa", sum := "9aece9d42a3c59cf55aa2f80f4bed1975fa67530587cbd296b8605d641f6458a", func := "ballonet/ballonetlaw01.BoundRoots", spec := "boundRoots", unfollowed := true, recurses := true, named := ["math/bits.divideError", "math/bits.overflowError"], apart := false, narrowed := true }
def BoundRootsUptoSaid : Prop := boundRootsUptoRow.holds Try.pinned (OpenSpec.upto boundRootsSpec)

/-- 'ballonetlaw01.BoundWhere', WHERE WHAT IT READS IS OF BULK AT MOST 1048576: true; the input reads as it did. -/
def boundWhereUptoRow : OpenClaim := { program := "ytflgdckeinappaa", sum := "9aece9d42a3c59cf55aa2f80f4bed1975fa67530587cbd296b8605d641f6458a", func := "ballonet/ballonetlaw01.BoundWhere", spec := "boundWhere", unfollowed := true, recurses := true, named := ["math/bits.divideError", "math/bits.overflowError"], apart := false, narrowed := true }
def BoundWhereUptoSaid : Prop := boundWhereUptoRow.holds Try.pinned (OpenSpec.upto boundWhereSpec)

end Rows
end Go.Proofs.Ytflgdckeinappaa
