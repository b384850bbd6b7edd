/-
  NARROWER THAN 'FOR EVERY INPUT', by the rows' own cells (each row's printed sentence says how): TopBad: laid · TopReads: laid · TopHidden: laid · TopTwice: laid · TopIdle: laid · TopWhole: laid · TopLost: laid · TopOwn: laid · TopGone: laid · TopQueue: laid · TopAnew: laid · TopWaits: laid.
  DERIVED. THE GIVEN ROWS OF THIS SEAT. 12 by the template 'for every input the law returns true; each argument reads behind the call as it read before'; 0 by the template 'total and deterministic' (their statements: YtgnknpcnpjnohaaGreatDoorTotals.lean).
  GIVEN WITH THE SEED: the statements are not yours to turn. If you find one false, say at which input.
  Laid BY PROGRAM, IN A SANDBOX (cutbox-rows.mjs): the forced cells as the released guide's own fill.sh prints them over the translation 46a6e8a9bcd31880… (all of the seat's roots in one cut). By AI agents, Wed Nov 11 2026. No macro, syntax, notation, axiom, sorry.
-/
import Derived.Test.YtgnknpcnpjnohaaGreatDoorChecked
import GoSem.Claim
import GoSem.ClaimJoined
import GoSem.ClaimMapViews
import Derived.JoinedTies
import Derived.KernelRfl
namespace Go.Proofs.YtgnknpcnpjnohaaGreatDoor
/- THE CELL 'sum', in the pinned program and in every row, IS THE sha256 OF THE DUMP (.gsa) THAT YtgnknpcnpjnohaaGreatDoorProg.lean LOADS. Nothing in Lean hashes anything: it is a label: what it is worth is what the hold of that sum in a sandbox is worth. -/
noncomputable def Tryz.pinned : Pinned := { name := "ytgnknpcnpjnohaagreatdoor", sum := "46a6e8a9bcd3188066b8f475a430c04f2eb66b2d4536e614ab2087794cf1eabf", checked := Tryz.checked }
namespace Rows
def none {H : Type} : Left H := { results := [], args := [] }

/- WHAT THE LISTED PACKAGE-LEVEL VARIABLES READ AS WHEN THE CALL BEGINS. Each datum BY PROGRAM (the guide's laid-datum.mjs) off the statement by which the dump's own 'gosem.cut.vars' lays the variable. In a bare row this is a premise. The card (YtgnknpcnpjnohaaGreatDoorCards.lean) ties it to the program's text. -/
def laid_canopy_digest_roundNumbers {H : Type} : DataW H := .agg [.lit (.int .u64 1), .lit (.int .u64 32898), .lit (.int .u64 9223372036854808714), .lit (.int .u64 9223372039002292224), .lit (.int .u64 32907), .lit (.int .u64 2147483649), .lit (.int .u64 9223372039002292353), .lit (.int .u64 9223372036854808585), .lit (.int .u64 138), .lit (.int .u64 136), .lit (.int .u64 2147516425), .lit (.int .u64 2147483658), .lit (.int .u64 2147516555), .lit (.int .u64 9223372036854775947), .lit (.int .u64 9223372036854808713), .lit (.int .u64 9223372036854808579), .lit (.int .u64 9223372036854808578), .lit (.int .u64 9223372036854775936), .lit (.int .u64 32778), .lit (.int .u64 9223372039002259466), .lit (.int .u64 9223372039002292353), .lit (.int .u64 9223372036854808704), .lit (.int .u64 2147483649), .lit (.int .u64 9223372039002292232)]
def laid_canopy_digest_laneWalk {H : Type} : DataW H := .agg [.lit (.int .i64 10), .lit (.int .i64 7), .lit (.int .i64 11), .lit (.int .i64 17), .lit (.int .i64 18), .lit (.int .i64 3), .lit (.int .i64 5), .lit (.int .i64 16), .lit (.int .i64 8), .lit (.int .i64 21), .lit (.int .i64 24), .lit (.int .i64 4), .lit (.int .i64 15), .lit (.int .i64 23), .lit (.int .i64 19), .lit (.int .i64 13), .lit (.int .i64 12), .lit (.int .i64 2), .lit (.int .i64 20), .lit (.int .i64 14), .lit (.int .i64 22), .lit (.int .i64 9), .lit (.int .i64 6), .lit (.int .i64 1)]
def laid_canopy_digest_laneTurns {H : Type} : DataW H := .agg [.lit (.int .i64 1), .lit (.int .i64 3), .lit (.int .i64 6), .lit (.int .i64 10), .lit (.int .i64 15), .lit (.int .i64 21), .lit (.int .i64 28), .lit (.int .i64 36), .lit (.int .i64 45), .lit (.int .i64 55), .lit (.int .i64 2), .lit (.int .i64 14), .lit (.int .i64 27), .lit (.int .i64 41), .lit (.int .i64 56), .lit (.int .i64 8), .lit (.int .i64 25), .lit (.int .i64 43), .lit (.int .i64 62), .lit (.int .i64 18), .lit (.int .i64 39), .lit (.int .i64 61), .lit (.int .i64 20), .lit (.int .i64 44)]
def laid_canopy_wire_parts {H : Type} : DataW H := .agg [.lit (.int .u8 0), .lit (.int .u8 0), .lit (.int .u8 3), .lit (.int .u8 7), .lit (.int .u8 11), .lit (.int .u8 3), .lit (.int .u8 0), .lit (.int .u8 0), .lit (.int .u8 3)]

/-- 'canopytop.TopBad': WHATEVER THE INPUT: true; the input reads as it did. -/
def topBadSpec : ChangeSpec := { name := "topBad", fn := fun _ => fun
  | [d1, d2, d3] => { results := [.lit (.bool true)], args := [d1, d2, d3] }
  | _ => none }
def topBadRow : OpenClaim := { program := "ytgnknpcnpjnohaagreatdoor", sum := "46a6e8a9bcd3188066b8f475a430c04f2eb66b2d4536e614ab2087794cf1eabf", func := "canopy/canopytop.TopBad", spec := "topBad", inPlace := ["internal/bytealg.Compare", "slices.overlaps[canopy/api.Tenant]"], unfollowed := true, recurses := true, named := ["canopy/wire.parts", "canopy/digest.roundNumbers", "canopy/digest.laneWalk", "canopy/digest.laneTurns"], apart := false, laid := [("canopy/digest.roundNumbers", laid_canopy_digest_roundNumbers), ("canopy/digest.laneWalk", laid_canopy_digest_laneWalk), ("canopy/digest.laneTurns", laid_canopy_digest_laneTurns), ("canopy/wire.parts", laid_canopy_wire_parts)] }
def TopBadSaid : Prop := topBadRow.holds Tryz.pinned (OpenSpec.ofChange topBadSpec)

/-- ITS FALSE NEIGHBOUR: 'it returns false'. Refute it at one input. -/
def topBadWrong : ChangeSpec := { name := "topBad", fn := fun _ => fun
  | [d1, d2, d3] => { results := [.lit (.bool false)], args := [d1, d2, d3] }
  | _ => none }
def TopBadWrongFalsely : Prop := topBadRow.holds Tryz.pinned (OpenSpec.ofChange topBadWrong)

/-- 'canopytop.TopReads': WHATEVER THE INPUT: true; the input reads as it did. -/
def topReadsSpec : ChangeSpec := { name := "topReads", fn := fun _ => fun
  | [d1, d2] => { results := [.lit (.bool true)], args := [d1, d2] }
  | _ => none }
def topReadsRow : OpenClaim := { program := "ytgnknpcnpjnohaagreatdoor", sum := "46a6e8a9bcd3188066b8f475a430c04f2eb66b2d4536e614ab2087794cf1eabf", func := "canopy/canopytop.TopReads", spec := "topReads", inPlace := ["internal/bytealg.Compare", "slices.overlaps[canopy/api.Tenant]"], unfollowed := true, recurses := true, named := ["canopy/wire.parts", "canopy/digest.roundNumbers", "canopy/digest.laneWalk", "canopy/digest.laneTurns"], apart := false, laid := [("canopy/digest.roundNumbers", laid_canopy_digest_roundNumbers), ("canopy/digest.laneWalk", laid_canopy_digest_laneWalk), ("canopy/digest.laneTurns", laid_canopy_digest_laneTurns), ("canopy/wire.parts", laid_canopy_wire_parts)] }
def TopReadsSaid : Prop := topReadsRow.holds Tryz.pinned (OpenSpec.ofChange topReadsSpec)

/-- ITS FALSE NEIGHBOUR: 'it returns false'. Refute it at one input. -/
def topReadsWrong : ChangeSpec := { name := "topReads", fn := fun _ => fun
  | [d1, d2] => { results := [.lit (.bool false)], args := [d1, d2] }
  | _ => none }
def TopReadsWrongFalsely : Prop := topReadsRow.holds Tryz.pinned (OpenSpec.ofChange topReadsWrong)

/-- 'canopytop.TopHidden': WHATEVER THE INPUT: true; the input reads as it did. -/
def topHiddenSpec : ChangeSpec := { name := "topHidden", fn := fun _ => fun
  | [d1, d2] => { results := [.lit (.bool true)], args := [d1, d2] }
  | _ => none }
def topHiddenRow : OpenClaim := { program := "ytgnknpcnpjnohaagreatdoor", sum := "46a6e8a9bcd3188066b8f475a430c04f2eb66b2d4536e614ab2087794cf1eabf", func := "canopy/canopytop.TopHidden", spec := "topHidden", inPlace := ["internal/bytealg.Compare", "slices.overlaps[canopy/api.Tenant]"], unfollowed := true, recurses := true, named := ["canopy/wire.parts", "canopy/digest.roundNumbers", "canopy/digest.laneWalk", "canopy/digest.laneTurns"], apart := false, laid := [("canopy/digest.roundNumbers", laid_canopy_digest_roundNumbers), ("canopy/digest.laneWalk", laid_canopy_digest_laneWalk), ("canopy/digest.laneTurns", laid_canopy_digest_laneTurns), ("canopy/wire.parts", laid_canopy_wire_parts)] }
def TopHiddenSaid : Prop := topHiddenRow.holds Tryz.pinned (OpenSpec.ofChange topHiddenSpec)

/-- ITS FALSE NEIGHBOUR: 'it returns false'. Refute it at one input. -/
def topHiddenWrong : ChangeSpec := { name := "topHidden", fn := fun _ => fun
  | [d1, d2] => { results := [.lit (.bool false)], args := [d1, d2] }
  | _ => none }
def TopHiddenWrongFalsely : Prop := topHiddenRow.holds Tryz.pinned (OpenSpec.ofChange topHiddenWrong)

/-- 'canopytop.TopTwice': WHATEVER THE INPUT: true; the input reads as it did. -/
def topTwiceSpec : ChangeSpec := { name := "topTwice", fn := fun _ => fun
  | [d1, d2, d3] => { results := [.lit (.bool true)], args := [d1, d2, d3] }
  | _ => none }
def topTwiceRow : OpenClaim := { program := "ytgnknpcnpjnohaagreatdoor", sum := "46a6e8a9bcd3188066b8f475a430c04f2eb66b2d4536e614ab2087794cf1eabf", func := "canopy/canopytop.TopTwice", spec := "topTwice", inPlace := ["internal/bytealg.Compare", "slices.overlaps[canopy/api.Tenant]"], unfollowed := true, recurses := true, named := ["canopy/wire.parts", "canopy/digest.roundNumbers", "canopy/digest.laneWalk", "canopy/digest.laneTurns"], apart := false, laid := [("canopy/digest.roundNumbers", laid_canopy_digest_roundNumbers), ("canopy/digest.laneWalk", laid_canopy_digest_laneWalk), ("canopy/digest.laneTurns", laid_canopy_digest_laneTurns), ("canopy/wire.parts", laid_canopy_wire_parts)] }
def TopTwiceSaid : Prop := topTwiceRow.holds Tryz.pinned (OpenSpec.ofChange topTwiceSpec)

/-- ITS FALSE NEIGHBOUR: 'it returns false'. Refute it at one input. -/
def topTwiceWrong : ChangeSpec := { name := "topTwice", fn := fun _ => fun
  | [d1, d2, d3] => { results := [.lit (.bool false)], args := [d1, d2, d3] }
  | _ => none }
def TopTwiceWrongFalsely : Prop := topTwiceRow.holds Tryz.pinned (OpenSpec.ofChange topTwiceWrong)

/-- 'canopytop.TopIdle': WHATEVER THE INPUT: true; the input reads as it did. -/
def topIdleSpec : ChangeSpec := { name := "topIdle", fn := fun _ => fun
  | [d1, d2] => { results := [.lit (.bool true)], args := [d1, d2] }
  | _ => none }
def topIdleRow : OpenClaim := { program := "ytgnknpcnpjnohaagreatdoor", sum := "46a6e8a9bcd3188066b8f475a430c04f2eb66b2d4536e614ab2087794cf1eabf", func := "canopy/canopytop.TopIdle", spec := "topIdle", inPlace := ["internal/bytealg.Compare", "slices.overlaps[canopy/api.Tenant]"], unfollowed := true, recurses := true, named := ["canopy/wire.parts", "canopy/digest.roundNumbers", "canopy/digest.laneWalk", "canopy/digest.laneTurns"], apart := false, laid := [("canopy/digest.roundNumbers", laid_canopy_digest_roundNumbers), ("canopy/digest.laneWalk", laid_canopy_digest_laneWalk), ("canopy/digest.laneTurns", laid_canopy_digest_laneTurns), ("canopy/wire.parts", laid_canopy_wire_parts)] }
def TopIdleSaid : Prop := topIdleRow.holds Tryz.pinned (OpenSpec.ofChange topIdleSpec)

/-- ITS FALSE NEIGHBOUR: 'it returns false'. Refute it at one input. -/
def topIdleWrong : ChangeSpec := { name := "topIdle", fn := fun _ => fun
  | [d1, d2] => { results := [.lit (.bool false)], args := [d1, d2] }
  | _ => none }
def TopIdleWrongFalsely : Prop := topIdleRow.holds Tryz.pinned (OpenSpec.ofChange topIdleWrong)

/-- 'canopytop.TopWhole': WHATEVER THE INPUT: true; the input reads as it did. -/
def topWholeSpec : ChangeSpec := { name := "topWhole", fn := fun _ => fun
  | [d1, d2] => { results := [.lit (.bool true)], args := [d1, d2] }
  | _ => none }
def topWholeRow : OpenClaim := { program := "ytgnknpcnpjnohaagreatdoor", sum := "46a6e8a9bcd3188066b8f475a430c04f2eb66b2d4536e614ab2087794cf1eabf", func := "canopy/canopytop.TopWhole", spec := "topWhole", inPlace := ["internal/bytealg.Compare", "slices.overlaps[canopy/api.Tenant]"], unfollowed := true, recurses := true, named := ["canopy/wire.parts", "canopy/digest.roundNumbers", "canopy/digest.laneWalk", "canopy/digest.laneTurns"], apart := false, laid := [("canopy/digest.roundNumbers", laid_canopy_digest_roundNumbers), ("canopy/digest.laneWalk", laid_canopy_digest_laneWalk), ("canopy/digest.laneTurns", laid_canopy_digest_laneTurns), ("canopy/wire.parts", laid_canopy_wire_parts)] }
def TopWholeSaid : Prop := topWholeRow.holds Tryz.pinned (OpenSpec.ofChange topWholeSpec)

/-- ITS FALSE NEIGHBOUR: 'it returns false'. Refute it at one input. -/
def topWholeWrong : ChangeSpec := { name := "topWhole", fn := fun _ => fun
  | [d1, d2] => { results := [.lit (.bool false)], args := [d1, d2] }
  | _ => none }
def TopWholeWrongFalsely : Prop := topWholeRow.holds Tryz.pinned (OpenSpec.ofChange topWholeWrong)

/-- 'canopytop.TopLost': WHATEVER THE INPUT: true; the input reads as it did. -/
def topLostSpec : ChangeSpec := { name := "topLost", fn := fun _ => fun
  | [d1, d2] => { results := [.lit (.bool true)], args := [d1, d2] }
  | _ => none }
def topLostRow : OpenClaim := { program := "ytgnknpcnpjnohaagreatdoor", sum := "46a6e8a9bcd3188066b8f475a430c04f2eb66b2d4536e614ab2087794cf1eabf", func := "canopy/canopytop.TopLost", spec := "topLost", inPlace := ["internal/bytealg.Compare", "slices.overlaps[canopy/api.Tenant]"], unfollowed := true, recurses := true, named := ["canopy/wire.parts", "canopy/digest.roundNumbers", "canopy/digest.laneWalk", "canopy/digest.laneTurns"], apart := false, laid := [("canopy/digest.roundNumbers", laid_canopy_digest_roundNumbers), ("canopy/digest.laneWalk", laid_canopy_digest_laneWalk), ("canopy/digest.laneTurns", laid_canopy_digest_laneTurns), ("canopy/wire.parts", laid_canopy_wire_parts)] }
def TopLostSaid : Prop := topLostRow.holds Tryz.pinned (OpenSpec.ofChange topLostSpec)

/-- ITS FALSE NEIGHBOUR: 'it returns false'. Refute it at one input. -/
def topLostWrong : ChangeSpec := { name := "topLost", fn := fun _ => fun
  | [d1, d2] => { results := [.lit (.bool false)], args := [d1, d2] }
  | _ => none }
def TopLostWrongFalsely : Prop := topLostRow.holds Tryz.pinned (OpenSpec.ofChange topLostWrong)

/-- 'canopytop.TopOwn': WHATEVER THE INPUT: true; the input reads as it did. -/
def topOwnSpec : ChangeSpec := { name := "topOwn", fn := fun _ => fun
  | [d1, d2] => { results := [.lit (.bool true)], args := [d1, d2] }
  | _ => none }
def topOwnRow : OpenClaim := { program := "ytgnknpcnpjnohaagreatdoor", sum := "46a6e8a9bcd3188066b8f475a430c04f2eb66b2d4536e614ab2087794cf1eabf", func := "canopy/canopytop.TopOwn", spec := "topOwn", inPlace := ["internal/bytealg.Compare", "slices.overlaps[canopy/api.Tenant]"], unfollowed := true, recurses := true, named := ["canopy/wire.parts", "canopy/digest.roundNumbers", "canopy/digest.laneWalk", "canopy/digest.laneTurns"], apart := false, laid := [("canopy/digest.roundNumbers", laid_canopy_digest_roundNumbers), ("canopy/digest.laneWalk", laid_canopy_digest_laneWalk), ("canopy/digest.laneTurns", laid_canopy_digest_laneTurns), ("canopy/wire.parts", laid_canopy_wire_parts)] }
def TopOwnSaid : Prop := topOwnRow.holds Tryz.pinned (OpenSpec.ofChange topOwnSpec)

/-- ITS FALSE NEIGHBOUR: 'it returns false'. Refute it at one input. -/
def topOwnWrong : ChangeSpec := { name := "topOwn", fn := fun _ => fun
  | [d1, d2] => { results := [.lit (.bool false)], args := [d1, d2] }
  | _ => none }
def TopOwnWrongFalsely : Prop := topOwnRow.holds Tryz.pinned (OpenSpec.ofChange topOwnWrong)

/-- 'canopytop.TopGone': WHATEVER THE INPUT: true; the input reads as it did. -/
def topGoneSpec : ChangeSpec := { name := "topGone", fn := fun _ => fun
  | [d] => { results := [.lit (.bool true)], args := [d] }
  | _ => none }
def topGoneRow : OpenClaim := { program := "ytgnknpcnpjnohaagreatdoor", sum := "46a6e8a9bcd3188066b8f475a430c04f2eb66b2d4536e614ab2087794cf1eabf", func := "canopy/canopytop.TopGone", spec := "topGone", inPlace := ["internal/bytealg.Compare", "slices.overlaps[canopy/api.Tenant]"], unfollowed := true, recurses := true, named := ["canopy/wire.parts", "canopy/digest.roundNumbers", "canopy/digest.laneWalk", "canopy/digest.laneTurns"], apart := false, laid := [("canopy/digest.roundNumbers", laid_canopy_digest_roundNumbers), ("canopy/digest.laneWalk", laid_canopy_digest_laneWalk), ("canopy/digest.laneTurns", laid_canopy_digest_laneTurns), ("canopy/wire.parts", laid_canopy_wire_parts)] }
def TopGoneSaid : Prop := topGoneRow.holds Tryz.pinned (OpenSpec.ofChange topGoneSpec)

/-- ITS FALSE NEIGHBOUR: 'it returns false'. Refute it at one input. -/
def topGoneWrong : ChangeSpec := { name := "topGone", fn := fun _ => fun
  | [d] => { results := [.lit (.bool false)], args := [d] }
  | _ => none }
def TopGoneWrongFalsely : Prop := topGoneRow.holds Tryz.pinned (OpenSpec.ofChange topGoneWrong)

/-- 'canopytop.TopQueue': WHATEVER THE INPUT: true; the input reads as it did. -/
def topQueueSpec : ChangeSpec := { name := "topQueue", fn := fun _ => fun
  | [d] => { results := [.lit (.bool true)], args := [d] }
  | _ => none }
def topQueueRow : OpenClaim := { program := "ytgnknpcnpjnohaagreatdoor", sum := "46a6e8a9bcd3188066b8f475a430c04f2eb66b2d4536e614ab2087794cf1eabf", func := "canopy/canopytop.TopQueue", spec := "topQueue", inPlace := ["internal/bytealg.Compare", "slices.overlaps[canopy/api.Tenant]"], unfollowed := true, recurses := true, named := ["canopy/wire.parts", "canopy/digest.roundNumbers", "canopy/digest.laneWalk", "canopy/digest.laneTurns"], apart := false, laid := [("canopy/digest.roundNumbers", laid_canopy_digest_roundNumbers), ("canopy/digest.laneWalk", laid_canopy_digest_laneWalk), ("canopy/digest.laneTurns", laid_canopy_digest_laneTurns), ("canopy/wire.parts", laid_canopy_wire_parts)] }
def TopQueueSaid : Prop := topQueueRow.holds Tryz.pinned (OpenSpec.ofChange topQueueSpec)

/-- ITS FALSE NEIGHBOUR: 'it returns false'. Refute it at one input. -/
def topQueueWrong : ChangeSpec := { name := "topQueue", fn := fun _ => fun
  | [d] => { results := [.lit (.bool false)], args := [d] }
  | _ => none }
def TopQueueWrongFalsely : Prop := topQueueRow.holds Tryz.pinned (OpenSpec.ofChange topQueueWrong)

/-- 'canopytop.TopAnew': WHATEVER THE INPUT: true; the input reads as it did. -/
def topAnewSpec : ChangeSpec := { name := "topAnew", fn := fun _ => fun
  | [d1, d2] => { results := [.lit (.bool true)], args := [d1, d2] }
  | _ => none }
def topAnewRow : OpenClaim := { program := "ytgnknpcnpjnohaagreatdoor", sum := "46a6e8a9bcd3188066b8f475a430c04f2eb66b2d4536e614ab2087794cf1eabf", func := "canopy/canopytop.TopAnew", spec := "topAnew", inPlace := ["internal/bytealg.Compare", "slices.overlaps[canopy/api.Tenant]"], unfollowed := true, recurses := true, named := ["canopy/wire.parts", "canopy/digest.roundNumbers", "canopy/digest.laneWalk", "canopy/digest.laneTurns"], apart := false, laid := [("canopy/digest.roundNumbers", laid_canopy_digest_roundNumbers), ("canopy/digest.laneWalk", laid_canopy_digest_laneWalk), ("canopy/digest.laneTurns", laid_canopy_digest_laneTurns), ("canopy/wire.parts", laid_canopy_wire_parts)] }
def TopAnewSaid : Prop := topAnewRow.holds Tryz.pinned (OpenSpec.ofChange topAnewSpec)

/-- ITS FALSE NEIGHBOUR: 'it returns false'. Refute it at one input. -/
def topAnewWrong : ChangeSpec := { name := "topAnew", fn := fun _ => fun
  | [d1, d2] => { results := [.lit (.bool false)], args := [d1, d2] }
  | _ => none }
def TopAnewWrongFalsely : Prop := topAnewRow.holds Tryz.pinned (OpenSpec.ofChange topAnewWrong)

/-- 'canopytop.TopWaits': WHATEVER THE INPUT: true; the input reads as it did. -/
def topWaitsSpec : ChangeSpec := { name := "topWaits", fn := fun _ => fun
  | [d] => { results := [.lit (.bool true)], args := [d] }
  | _ => none }
def topWaitsRow : OpenClaim := { program := "ytgnknpcnpjnohaagreatdoor", sum := "46a6e8a9bcd3188066b8f475a430c04f2eb66b2d4536e614ab2087794cf1eabf", func := "canopy/canopytop.TopWaits", spec := "topWaits", inPlace := ["internal/bytealg.Compare", "slices.overlaps[canopy/api.Tenant]"], unfollowed := true, recurses := true, named := ["canopy/wire.parts", "canopy/digest.roundNumbers", "canopy/digest.laneWalk", "canopy/digest.laneTurns"], apart := false, laid := [("canopy/digest.roundNumbers", laid_canopy_digest_roundNumbers), ("canopy/digest.laneWalk", laid_canopy_digest_laneWalk), ("canopy/digest.laneTurns", laid_canopy_digest_laneTurns), ("canopy/wire.parts", laid_canopy_wire_parts)] }
def TopWaitsSaid : Prop := topWaitsRow.holds Tryz.pinned (OpenSpec.ofChange topWaitsSpec)

/-- ITS FALSE NEIGHBOUR: 'it returns false'. Refute it at one input. -/
def topWaitsWrong : ChangeSpec := { name := "topWaits", fn := fun _ => fun
  | [d] => { results := [.lit (.bool false)], args := [d] }
  | _ => none }
def TopWaitsWrongFalsely : Prop := topWaitsRow.holds Tryz.pinned (OpenSpec.ofChange topWaitsWrong)

/- THE SECOND FORM. 'bulk': how many values and letters a reading holds, each counted each time it is reached (what is shared counts as often as it is met; a slice's spare places count too). A statement '..UptoSaid' is the law's where the arguments, and the package variables that the reading takes, are together of bulk at most 1048576: NARROWER than '..Said'. Prove '..Said' where nothing that the law and all that it calls make is longer than what came in: it says more and counts as full. Else prove '..UptoSaid'. A law counts once. -/
mutual
def uptoBulk {H : Type} : DataW H → Nat
  | .lit (.string bytes) => bytes.length + 1
  | .lit _ => 1
  | .nil => 1
  | .ptr d => uptoBulk d + 1
  | .slice elems spare => uptoBulkAll elems + uptoBulkAll spare + 1
  | .agg parts => uptoBulkAll parts + 1
  | .iface _ d => uptoBulk d + 1
  | .map entries => uptoBulkEntries entries + 1
  | .held _ => 1
def uptoBulkAll {H : Type} : List (DataW H) → Nat
  | [] => 0
  | d :: r => uptoBulk d + uptoBulkAll r
def uptoBulkEntries {H : Type} : List (Lit × DataW H) → Nat
  | [] => 0
  | x :: r => uptoBulkEntry x + uptoBulkEntries r
def uptoBulkEntry {H : Type} : Lit × DataW H → Nat
  | (.string bytes, d) => bytes.length + uptoBulk d + 1
  | (_, d) => uptoBulk d + 1
 end
def uptoSmall : (H : Type) → List (DataW H) → Bool := fun _ ds => decide (uptoBulkAll ds ≤ 1048576)
def OpenSpec.upto (s : _root_.Go.ChangeSpec) : _root_.Go.OpenSpec := { _root_.Go.OpenSpec.ofChange s with cond := some uptoSmall }

/-- 'canopytop.TopBad', WHERE WHAT IT READS IS OF BULK AT MOST 1048576: true; the input reads as it did. -/
def topBadUptoRow : OpenClaim := { program := "ytgnknpcnpjnohaagreatdoor", sum := "46a6e8a9bcd3188066b8f475a430c04f2eb66b2d4536e614ab2087794cf1eabf", func := "canopy/canopytop.TopBad", spec := "topBad", inPlace := ["internal/bytealg.Compare", "slices.overlaps[canopy/api.Tenant]"], unfollowed := true, recurses := true, named := ["canopy/wire.parts", "canopy/digest.roundNumbers", "canopy/digest.laneWalk", "canopy/digest.laneTurns"], apart := false, laid := [("canopy/digest.roundNumbers", laid_canopy_digest_roundNumbers), ("canopy/digest.laneWalk", laid_canopy_digest_laneWalk), ("canopy/digest.laneTurns", laid_canopy_digest_laneTurns), ("canopy/wire.parts", laid_canopy_wire_parts)], narrowed := true }
def TopBadUptoSaid : Prop := topBadUptoRow.holds Tryz.pinned (OpenSpec.upto topBadSpec)

/-- 'canopytop.TopReads', WHERE WHAT IT READS IS OF BULK AT MOST 1048576: true; the input reads as it did. -/
def topReadsUptoRow : OpenClaim := { program := "ytgnknpcnpjnohaagreatdoor", sum := "46a6e8a9bcd3188066b8f475a430c04f2eb66b2d4536e614ab2087794cf1eabf", func := "canopy/canopytop.TopReads", spec := "topReads", inPlace := ["internal/bytealg.Compare", "slices.overlaps[canopy/api.Tenant]"], unfollowed := true, recurses := true, named := ["canopy/wire.parts", "canopy/digest.roundNumbers", "canopy/digest.laneWalk", "canopy/digest.laneTurns"], apart := false, laid := [("canopy/digest.roundNumbers", laid_canopy_digest_roundNumbers), ("canopy/digest.laneWalk", laid_canopy_digest_laneWalk), ("canopy/digest.laneTurns", laid_canopy_digest_laneTurns), ("canopy/wire.parts", laid_canopy_wire_parts)], narrowed := true }
def TopReadsUptoSaid : Prop := topReadsUptoRow.holds Tryz.pinned (OpenSpec.upto topReadsSpec)

/-- 'canopytop.TopHidden', WHERE WHAT IT READS IS OF BULK AT MOST 1048576: true; the input reads as it did. -/
def topHiddenUptoRow : OpenClaim := { program := "ytgnknpcnpjnohaagreatdoor", sum := "46a6e8a9bcd3188066b8f475a430c04f2eb66b2d4536e614ab2087794cf1eabf", func := "canopy/canopytop.TopHidden", spec := "topHidden", inPlace := ["internal/bytealg.Compare", "slices.overlaps[canopy/api.Tenant]"], unfollowed := true, recurses := true, named := ["canopy/wire.parts", "canopy/digest.roundNumbers", "canopy/digest.laneWalk", "canopy/digest.laneTurns"], apart := false, laid := [("canopy/digest.roundNumbers", laid_canopy_digest_roundNumbers), ("canopy/digest.laneWalk", laid_canopy_digest_laneWalk), ("canopy/digest.laneTurns", laid_canopy_digest_laneTurns), ("canopy/wire.parts", laid_canopy_wire_parts)], narrowed := true }
def TopHiddenUptoSaid : Prop := topHiddenUptoRow.holds Tryz.pinned (OpenSpec.upto topHiddenSpec)

/-- 'canopytop.TopTwice', WHERE WHAT IT READS IS OF BULK AT MOST 1048576: true; the input reads as it did. -/
def topTwiceUptoRow : OpenClaim := { program := "ytgnknpcnpjnohaagreatdoor", sum := "46a6e8a9bcd3188066b8f475a430c04f2eb66b2d4536e614ab2087794cf1eabf", func := "canopy/canopytop.TopTwice", spec := "topTwice", inPlace := ["internal/bytealg.Compare", "slices.overlaps[canopy/api.Tenant]"], unfollowed := true, recurses := true, named := ["canopy/wire.parts", "canopy/digest.roundNumbers", "canopy/digest.laneWalk", "canopy/digest.laneTurns"], apart := false, laid := [("canopy/digest.roundNumbers", laid_canopy_digest_roundNumbers), ("canopy/digest.laneWalk", laid_canopy_digest_laneWalk), ("canopy/digest.laneTurns", laid_canopy_digest_laneTurns), ("canopy/wire.parts", laid_canopy_wire_parts)], narrowed := true }
def TopTwiceUptoSaid : Prop := topTwiceUptoRow.holds Tryz.pinned (OpenSpec.upto topTwiceSpec)

/-- 'canopytop.TopIdle', WHERE WHAT IT READS IS OF BULK AT MOST 1048576: true; the input reads as it did. -/
def topIdleUptoRow : OpenClaim := { program := "ytgnknpcnpjnohaagreatdoor", sum := "46a6e8a9bcd3188066b8f475a430c04f2eb66b2d4536e614ab2087794cf1eabf", func := "canopy/canopytop.TopIdle", spec := "topIdle", inPlace := ["internal/bytealg.Compare", "slices.overlaps[canopy/api.Tenant]"], unfollowed := true, recurses := true, named := ["canopy/wire.parts", "canopy/digest.roundNumbers", "canopy/digest.laneWalk", "canopy/digest.laneTurns"], apart := false, laid := [("canopy/digest.roundNumbers", laid_canopy_digest_roundNumbers), ("canopy/digest.laneWalk", laid_canopy_digest_laneWalk), ("canopy/digest.laneTurns", laid_canopy_digest_laneTurns), ("canopy/wire.parts", laid_canopy_wire_parts)], narrowed := true }
def TopIdleUptoSaid : Prop := topIdleUptoRow.holds Tryz.pinned (OpenSpec.upto topIdleSpec)

/-- 'canopytop.TopWhole', WHERE WHAT IT READS IS OF BULK AT MOST 1048576: true; the input reads as it did. -/
def topWholeUptoRow : OpenClaim := { program := "ytgnknpcnpjnohaagreatdoor", sum := "46a6e8a9bcd3188066b8f475a430c04f2eb66b2d4536e614ab2087794cf1eabf", func := "canopy/canopytop.TopWhole", spec := "topWhole", inPlace := ["internal/bytealg.Compare", "slices.overlaps[canopy/api.Tenant]"], unfollowed := true, recurses := true, named := ["canopy/wire.parts", "canopy/digest.roundNumbers", "canopy/digest.laneWalk", "canopy/digest.laneTurns"], apart := false, laid := [("canopy/digest.roundNumbers", laid_canopy_digest_roundNumbers), ("canopy/digest.laneWalk", laid_canopy_digest_laneWalk), ("canopy/digest.laneTurns", laid_canopy_digest_laneTurns), ("canopy/wire.parts", laid_canopy_wire_parts)], narrowed := true }
def TopWholeUptoSaid : Prop := topWholeUptoRow.holds Tryz.pinned (OpenSpec.upto topWholeSpec)

/-- 'canopytop.TopLost', WHERE WHAT IT READS IS OF BULK AT MOST 1048576: true; the input reads as it did. -/
def topLostUptoRow : OpenClaim := { program := "ytgnknpcnpjnohaagreatdoor", sum := "46a6e8a9bcd3188066b8f475a430c04f2eb66b2d4536e614ab2087794cf1eabf", func := "canopy/canopytop.TopLost", spec := "topLost", inPlace := ["internal/bytealg.Compare", "slices.overlaps[canopy/api.Tenant]"], unfollowed := true, recurses := true, named := ["canopy/wire.parts", "canopy/digest.roundNumbers", "canopy/digest.laneWalk", "canopy/digest.laneTurns"], apart := false, laid := [("canopy/digest.roundNumbers", laid_canopy_digest_roundNumbers), ("canopy/digest.laneWalk", laid_canopy_digest_laneWalk), ("canopy/digest.laneTurns", laid_canopy_digest_laneTurns), ("canopy/wire.parts", laid_canopy_wire_parts)], narrowed := true }
def TopLostUptoSaid : Prop := topLostUptoRow.holds Tryz.pinned (OpenSpec.upto topLostSpec)

/-- 'canopytop.TopOwn', WHERE WHAT IT READS IS OF BULK AT MOST 1048576: true; the input reads as it did. -/
def topOwnUptoRow : OpenClaim := { program := "ytgnknpcnpjnohaagreatdoor", sum := "46a6e8a9bcd3188066b8f475a430c04f2eb66b2d4536e614ab2087794cf1eabf", func := "canopy/canopytop.TopOwn", spec := "topOwn", inPlace := ["internal/bytealg.Compare", "slices.overlaps[canopy/api.Tenant]"], unfollowed := true, recurses := true, named := ["canopy/wire.parts", "canopy/digest.roundNumbers", "canopy/digest.laneWalk", "canopy/digest.laneTurns"], apart := false, laid := [("canopy/digest.roundNumbers", laid_canopy_digest_roundNumbers), ("canopy/digest.laneWalk", laid_canopy_digest_laneWalk), ("canopy/digest.laneTurns", laid_canopy_digest_laneTurns), ("canopy/wire.parts", laid_canopy_wire_parts)], narrowed := true }
def TopOwnUptoSaid : Prop := topOwnUptoRow.holds Tryz.pinned (OpenSpec.upto topOwnSpec)

/-- 'canopytop.TopGone', WHERE WHAT IT READS IS OF BULK AT MOST 1048576: true; the input reads as it did. -/
def topGoneUptoRow : OpenClaim := { program := "ytgnknpcnpjnohaagreatdoor", sum := "46a6e8a9bcd3188066b8f475a430c04f2eb66b2d4536e614ab2087794cf1eabf", func := "canopy/canopytop.TopGone", spec := "topGone", inPlace := ["internal/bytealg.Compare", "slices.overlaps[canopy/api.Tenant]"], unfollowed := true, recurses := true, named := ["canopy/wire.parts", "canopy/digest.roundNumbers", "canopy/digest.laneWalk", "canopy/digest.laneTurns"], apart := false, laid := [("canopy/digest.roundNumbers", laid_canopy_digest_roundNumbers), ("canopy/digest.laneWalk", laid_canopy_digest_laneWalk), ("canopy/digest.laneTurns", laid_canopy_digest_laneTurns), ("canopy/wire.parts", laid_canopy_wire_parts)], narrowed := true }
def TopGoneUptoSaid : Prop := topGoneUptoRow.holds Tryz.pinned (OpenSpec.upto topGoneSpec)

/-- 'canopytop.TopQueue', WHERE WHAT IT READS IS OF BULK AT MOST 1048576: true; the input reads as it did. -/
def topQueueUptoRow : OpenClaim := { program := "ytgnknpcnpjnohaagreatdoor", sum := "46a6e8a9bcd3188066b8f475a430c04f2eb66b2d4536e614ab2087794cf1eabf", func := "canopy/canopytop.TopQueue", spec := "topQueue", inPlace := ["internal/bytealg.Compare", "slices.overlaps[canopy/api.Tenant]"], unfollowed := true, recurses := true, named := ["canopy/wire.parts", "canopy/digest.roundNumbers", "canopy/digest.laneWalk", "canopy/digest.laneTurns"], apart := false, laid := [("canopy/digest.roundNumbers", laid_canopy_digest_roundNumbers), ("canopy/digest.laneWalk", laid_canopy_digest_laneWalk), ("canopy/digest.laneTurns", laid_canopy_digest_laneTurns), ("canopy/wire.parts", laid_canopy_wire_parts)], narrowed := true }
def TopQueueUptoSaid : Prop := topQueueUptoRow.holds Tryz.pinned (OpenSpec.upto topQueueSpec)

/-- 'canopytop.TopAnew', WHERE WHAT IT READS IS OF BULK AT MOST 1048576: true; the input reads as it did. -/
def topAnewUptoRow : OpenClaim := { program := "ytgnknpcnpjnohaagreatdoor", sum := "46a6e8a9bcd3188066b8f475a430c04f2eb66b2d4536e614ab2087794cf1eabf", func := "canopy/canopytop.TopAnew", spec := "topAnew", inPlace := ["internal/bytealg.Compare", "slices.overlaps[canopy/api.Tenant]"], unfollowed := true, recurses := true, named := ["canopy/wire.parts", "canopy/digest.roundNumbers", "canopy/digest.laneWalk", "canopy/digest.laneTurns"], apart := false, laid := [("canopy/digest.roundNumbers", laid_canopy_digest_roundNumbers), ("canopy/digest.laneWalk", laid_canopy_digest_laneWalk), ("canopy/digest.laneTurns", laid_canopy_digest_laneTurns), ("canopy/wire.parts", laid_canopy_wire_parts)], narrowed := true }
def TopAnewUptoSaid : Prop := topAnewUptoRow.holds Tryz.pinned (OpenSpec.upto topAnewSpec)

/-- 'canopytop.TopWaits', WHERE WHAT IT READS IS OF BULK AT MOST 1048576: true; the input reads as it did. -/
def topWaitsUptoRow : OpenClaim := { program := "ytgnknpcnpjnohaagreatdoor", sum := "46a6e8a9bcd3188066b8f475a430c04f2eb66b2d4536e614ab2087794cf1eabf", func := "canopy/canopytop.TopWaits", spec := "topWaits", inPlace := ["internal/bytealg.Compare", "slices.overlaps[canopy/api.Tenant]"], unfollowed := true, recurses := true, named := ["canopy/wire.parts", "canopy/digest.roundNumbers", "canopy/digest.laneWalk", "canopy/digest.laneTurns"], apart := false, laid := [("canopy/digest.roundNumbers", laid_canopy_digest_roundNumbers), ("canopy/digest.laneWalk", laid_canopy_digest_laneWalk), ("canopy/digest.laneTurns", laid_canopy_digest_laneTurns), ("canopy/wire.parts", laid_canopy_wire_parts)], narrowed := true }
def TopWaitsUptoSaid : Prop := topWaitsUptoRow.holds Tryz.pinned (OpenSpec.upto topWaitsSpec)

end Rows
end Go.Proofs.YtgnknpcnpjnohaaGreatDoor
