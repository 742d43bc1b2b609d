/-
  NARROWER THAN 'FOR EVERY INPUT', by the rows' own cells (each row's printed sentence says how): FnExactDigits: laid · FnExactChain: laid · FnExactSecretPart: laid · FnExactMapDrop: loops, laid · FnExactMapPut: loops, laid · FnExactMapList: loops, laid.
  DERIVED. THE GIVEN ROWS OF THIS SEAT. 6 by the template 'for every input the law returns true; each argument reads behind the call as it read before'; 0 by the template 'total and deterministic' (their statements: YtcmdilmjdnbfkaaDoorTotals.lean).
  GIVEN WITH THE SEED: the statements are not yours to turn. If you find one false, say at which input.
  Laid BY PROGRAM, IN A SANDBOX (cutbox-rows.mjs): the forced cells as the released guide's own fill.sh prints them over the translation f3e2b82fa338b063… (all of the seat's roots in one cut). By AI agents, Wed Nov 11 2026. No macro, syntax, notation, axiom, sorry.
-/
import Derived.Test.YtcmdilmjdnbfkaaDoorChecked
import GoSem.Claim
import GoSem.ClaimJoined
import GoSem.ClaimMapViews
import Derived.JoinedTies
import Derived.KernelRfl
namespace Go.Proofs.YtcmdilmjdnbfkaaDoor
/- THE CELL 'sum', in the pinned program and in every row, IS THE sha256 OF THE DUMP (.gsa) THAT YtcmdilmjdnbfkaaDoorProg.lean LOADS. Nothing in Lean hashes anything: it is a label: what it is worth is what the hold of that sum in a sandbox is worth. -/
noncomputable def Tryd.pinned : Pinned := { name := "ytcmdilmjdnbfkaadoor", sum := "f3e2b82fa338b063d1fae5f675d2dbcff7330c4e9ba85878655bb89e63ae3d1a", checked := Tryd.checked }
namespace Rows
def none {H : Type} : Left H := { results := [], args := [] }

/- WHAT THE LISTED PACKAGE-LEVEL VARIABLES READ AS WHEN THE CALL BEGINS. Each datum BY PROGRAM (the guide's laid-datum.mjs) off the statement by which the dump's own 'gosem.cut.vars' lays the variable. In a bare row this is a premise. The card (YtcmdilmjdnbfkaaDoorCards.lean) ties it to the program's text. -/
def laid_loop_example_g00220_impl_firstWords {H : Type} : DataW H := .agg [.lit (.int .u32 1779033703), .lit (.int .u32 3144134277), .lit (.int .u32 1013904242), .lit (.int .u32 2773480762), .lit (.int .u32 1359893119), .lit (.int .u32 2600822924), .lit (.int .u32 528734635), .lit (.int .u32 1541459225)]
def laid_loop_example_g00220_impl_roundWords {H : Type} : DataW H := .agg [.lit (.int .u32 1116352408), .lit (.int .u32 1899447441), .lit (.int .u32 3049323471), .lit (.int .u32 3921009573), .lit (.int .u32 961987163), .lit (.int .u32 1508970993), .lit (.int .u32 2453635748), .lit (.int .u32 2870763221), .lit (.int .u32 3624381080), .lit (.int .u32 310598401), .lit (.int .u32 607225278), .lit (.int .u32 1426881987), .lit (.int .u32 1925078388), .lit (.int .u32 2162078206), .lit (.int .u32 2614888103), .lit (.int .u32 3248222580), .lit (.int .u32 3835390401), .lit (.int .u32 4022224774), .lit (.int .u32 264347078), .lit (.int .u32 604807628), .lit (.int .u32 770255983), .lit (.int .u32 1249150122), .lit (.int .u32 1555081692), .lit (.int .u32 1996064986), .lit (.int .u32 2554220882), .lit (.int .u32 2821834349), .lit (.int .u32 2952996808), .lit (.int .u32 3210313671), .lit (.int .u32 3336571891), .lit (.int .u32 3584528711), .lit (.int .u32 113926993), .lit (.int .u32 338241895), .lit (.int .u32 666307205), .lit (.int .u32 773529912), .lit (.int .u32 1294757372), .lit (.int .u32 1396182291), .lit (.int .u32 1695183700), .lit (.int .u32 1986661051), .lit (.int .u32 2177026350), .lit (.int .u32 2456956037), .lit (.int .u32 2730485921), .lit (.int .u32 2820302411), .lit (.int .u32 3259730800), .lit (.int .u32 3345764771), .lit (.int .u32 3516065817), .lit (.int .u32 3600352804), .lit (.int .u32 4094571909), .lit (.int .u32 275423344), .lit (.int .u32 430227734), .lit (.int .u32 506948616), .lit (.int .u32 659060556), .lit (.int .u32 883997877), .lit (.int .u32 958139571), .lit (.int .u32 1322822218), .lit (.int .u32 1537002063), .lit (.int .u32 1747873779), .lit (.int .u32 1955562222), .lit (.int .u32 2024104815), .lit (.int .u32 2227730452), .lit (.int .u32 2361852424), .lit (.int .u32 2428436474), .lit (.int .u32 2756734187), .lit (.int .u32 3204031479), .lit (.int .u32 3329325298)]

/-- 'laws.FnExactDigits': WHATEVER THE INPUT: true; the input reads as it did. -/
def fnExactDigitsSpec : ChangeSpec := { name := "fnExactDigits", vars := ["loop.example/g00220/impl.firstWords", "loop.example/g00220/impl.roundWords"], fn := fun _ => fun
  | [d, g1, g2] => { results := [.lit (.bool true)], args := [d], vars := [g1, g2] }
  | _ => none }
def fnExactDigitsRow : OpenClaim := { program := "ytcmdilmjdnbfkaadoor", sum := "f3e2b82fa338b063d1fae5f675d2dbcff7330c4e9ba85878655bb89e63ae3d1a", func := "loop.example/g00220/laws.FnExactDigits", spec := "fnExactDigits", named := ["loop.example/g00220/impl.firstWords", "loop.example/g00220/impl.roundWords"], apart := false, laid := [("loop.example/g00220/impl.firstWords", laid_loop_example_g00220_impl_firstWords), ("loop.example/g00220/impl.roundWords", laid_loop_example_g00220_impl_roundWords)] }
def FnExactDigitsSaid : Prop := fnExactDigitsRow.holds Tryd.pinned (OpenSpec.ofChange fnExactDigitsSpec)

/-- ITS FALSE NEIGHBOUR: 'it returns false'. Refute it at one input. -/
def fnExactDigitsWrong : ChangeSpec := { name := "fnExactDigits", vars := ["loop.example/g00220/impl.firstWords", "loop.example/g00220/impl.roundWords"], fn := fun _ => fun
  | [d, g1, g2] => { results := [.lit (.bool false)], args := [d], vars := [g1, g2] }
  | _ => none }
def FnExactDigitsWrongFalsely : Prop := fnExactDigitsRow.holds Tryd.pinned (OpenSpec.ofChange fnExactDigitsWrong)

/-- 'laws.FnExactChain': WHATEVER THE INPUT: true; the input reads as it did. -/
def fnExactChainSpec : ChangeSpec := { name := "fnExactChain", vars := ["loop.example/g00220/impl.firstWords", "loop.example/g00220/impl.roundWords"], fn := fun _ => fun
  | [d1, d2, d3, g1, g2] => { results := [.lit (.bool true)], args := [d1, d2, d3], vars := [g1, g2] }
  | _ => none }
def fnExactChainRow : OpenClaim := { program := "ytcmdilmjdnbfkaadoor", sum := "f3e2b82fa338b063d1fae5f675d2dbcff7330c4e9ba85878655bb89e63ae3d1a", func := "loop.example/g00220/laws.FnExactChain", spec := "fnExactChain", named := ["loop.example/g00220/impl.firstWords", "loop.example/g00220/impl.roundWords"], apart := false, laid := [("loop.example/g00220/impl.firstWords", laid_loop_example_g00220_impl_firstWords), ("loop.example/g00220/impl.roundWords", laid_loop_example_g00220_impl_roundWords)] }
def FnExactChainSaid : Prop := fnExactChainRow.holds Tryd.pinned (OpenSpec.ofChange fnExactChainSpec)

/-- ITS FALSE NEIGHBOUR: 'it returns false'. Refute it at one input. -/
def fnExactChainWrong : ChangeSpec := { name := "fnExactChain", vars := ["loop.example/g00220/impl.firstWords", "loop.example/g00220/impl.roundWords"], fn := fun _ => fun
  | [d1, d2, d3, g1, g2] => { results := [.lit (.bool false)], args := [d1, d2, d3], vars := [g1, g2] }
  | _ => none }
def FnExactChainWrongFalsely : Prop := fnExactChainRow.holds Tryd.pinned (OpenSpec.ofChange fnExactChainWrong)

/-- 'laws.FnExactSecretPart': WHATEVER THE INPUT: true; the input reads as it did. -/
def fnExactSecretPartSpec : ChangeSpec := { name := "fnExactSecretPart", vars := ["loop.example/g00220/impl.firstWords", "loop.example/g00220/impl.roundWords"], fn := fun _ => fun
  | [d1, d2, d3, g1, g2] => { results := [.lit (.bool true)], args := [d1, d2, d3], vars := [g1, g2] }
  | _ => none }
def fnExactSecretPartRow : OpenClaim := { program := "ytcmdilmjdnbfkaadoor", sum := "f3e2b82fa338b063d1fae5f675d2dbcff7330c4e9ba85878655bb89e63ae3d1a", func := "loop.example/g00220/laws.FnExactSecretPart", spec := "fnExactSecretPart", named := ["loop.example/g00220/impl.firstWords", "loop.example/g00220/impl.roundWords"], apart := false, laid := [("loop.example/g00220/impl.firstWords", laid_loop_example_g00220_impl_firstWords), ("loop.example/g00220/impl.roundWords", laid_loop_example_g00220_impl_roundWords)] }
def FnExactSecretPartSaid : Prop := fnExactSecretPartRow.holds Tryd.pinned (OpenSpec.ofChange fnExactSecretPartSpec)

/-- ITS FALSE NEIGHBOUR: 'it returns false'. Refute it at one input. -/
def fnExactSecretPartWrong : ChangeSpec := { name := "fnExactSecretPart", vars := ["loop.example/g00220/impl.firstWords", "loop.example/g00220/impl.roundWords"], fn := fun _ => fun
  | [d1, d2, d3, g1, g2] => { results := [.lit (.bool false)], args := [d1, d2, d3], vars := [g1, g2] }
  | _ => none }
def FnExactSecretPartWrongFalsely : Prop := fnExactSecretPartRow.holds Tryd.pinned (OpenSpec.ofChange fnExactSecretPartWrong)

/-- 'laws.FnExactMapDrop': WHATEVER THE INPUT: true; the input reads as it did. -/
def fnExactMapDropSpec : ChangeSpec := { name := "fnExactMapDrop", vars := ["loop.example/g00220/impl.firstWords", "loop.example/g00220/impl.roundWords"], fn := fun _ => fun
  | [d1, d2, g1, g2] => { results := [.lit (.bool true)], args := [d1, d2], vars := [g1, g2] }
  | _ => none }
def fnExactMapDropRow : OpenClaim := { program := "ytcmdilmjdnbfkaadoor", sum := "f3e2b82fa338b063d1fae5f675d2dbcff7330c4e9ba85878655bb89e63ae3d1a", func := "loop.example/g00220/laws.FnExactMapDrop", spec := "fnExactMapDrop", recurses := true, named := ["loop.example/g00220/impl.firstWords", "loop.example/g00220/impl.roundWords"], loops := true, apart := false, laid := [("loop.example/g00220/impl.firstWords", laid_loop_example_g00220_impl_firstWords), ("loop.example/g00220/impl.roundWords", laid_loop_example_g00220_impl_roundWords)] }
def FnExactMapDropSaid : Prop := fnExactMapDropRow.holds Tryd.pinned (OpenSpec.ofChange fnExactMapDropSpec)

/-- ITS FALSE NEIGHBOUR: 'it returns false'. Refute it at one input. -/
def fnExactMapDropWrong : ChangeSpec := { name := "fnExactMapDrop", vars := ["loop.example/g00220/impl.firstWords", "loop.example/g00220/impl.roundWords"], fn := fun _ => fun
  | [d1, d2, g1, g2] => { results := [.lit (.bool false)], args := [d1, d2], vars := [g1, g2] }
  | _ => none }
def FnExactMapDropWrongFalsely : Prop := fnExactMapDropRow.holds Tryd.pinned (OpenSpec.ofChange fnExactMapDropWrong)

/-- 'laws.FnExactMapPut': WHATEVER THE INPUT: true; the input reads as it did. -/
def fnExactMapPutSpec : ChangeSpec := { name := "fnExactMapPut", vars := ["loop.example/g00220/impl.firstWords", "loop.example/g00220/impl.roundWords"], fn := fun _ => fun
  | [d1, d2, d3, g1, g2] => { results := [.lit (.bool true)], args := [d1, d2, d3], vars := [g1, g2] }
  | _ => none }
def fnExactMapPutRow : OpenClaim := { program := "ytcmdilmjdnbfkaadoor", sum := "f3e2b82fa338b063d1fae5f675d2dbcff7330c4e9ba85878655bb89e63ae3d1a", func := "loop.example/g00220/laws.FnExactMapPut", spec := "fnExactMapPut", unfollowed := true, recurses := true, named := ["loop.example/g00220/impl.firstWords", "loop.example/g00220/impl.roundWords"], loops := true, apart := false, laid := [("loop.example/g00220/impl.firstWords", laid_loop_example_g00220_impl_firstWords), ("loop.example/g00220/impl.roundWords", laid_loop_example_g00220_impl_roundWords)] }
def FnExactMapPutSaid : Prop := fnExactMapPutRow.holds Tryd.pinned (OpenSpec.ofChange fnExactMapPutSpec)

/-- ITS FALSE NEIGHBOUR: 'it returns false'. Refute it at one input. -/
def fnExactMapPutWrong : ChangeSpec := { name := "fnExactMapPut", vars := ["loop.example/g00220/impl.firstWords", "loop.example/g00220/impl.roundWords"], fn := fun _ => fun
  | [d1, d2, d3, g1, g2] => { results := [.lit (.bool false)], args := [d1, d2, d3], vars := [g1, g2] }
  | _ => none }
def FnExactMapPutWrongFalsely : Prop := fnExactMapPutRow.holds Tryd.pinned (OpenSpec.ofChange fnExactMapPutWrong)

/-- 'laws.FnExactMapList': WHATEVER THE INPUT: true; the input reads as it did. -/
def fnExactMapListSpec : ChangeSpec := { name := "fnExactMapList", vars := ["loop.example/g00220/impl.firstWords", "loop.example/g00220/impl.roundWords"], fn := fun _ => fun
  | [d, g1, g2] => { results := [.lit (.bool true)], args := [d], vars := [g1, g2] }
  | _ => none }
def fnExactMapListRow : OpenClaim := { program := "ytcmdilmjdnbfkaadoor", sum := "f3e2b82fa338b063d1fae5f675d2dbcff7330c4e9ba85878655bb89e63ae3d1a", func := "loop.example/g00220/laws.FnExactMapList", spec := "fnExactMapList", unfollowed := true, recurses := true, named := ["loop.example/g00220/impl.firstWords", "loop.example/g00220/impl.roundWords"], loops := true, apart := false, laid := [("loop.example/g00220/impl.firstWords", laid_loop_example_g00220_impl_firstWords), ("loop.example/g00220/impl.roundWords", laid_loop_example_g00220_impl_roundWords)] }
def FnExactMapListSaid : Prop := fnExactMapListRow.holds Tryd.pinned (OpenSpec.ofChange fnExactMapListSpec)

/-- ITS FALSE NEIGHBOUR: 'it returns false'. Refute it at one input. -/
def fnExactMapListWrong : ChangeSpec := { name := "fnExactMapList", vars := ["loop.example/g00220/impl.firstWords", "loop.example/g00220/impl.roundWords"], fn := fun _ => fun
  | [d, g1, g2] => { results := [.lit (.bool false)], args := [d], vars := [g1, g2] }
  | _ => none }
def FnExactMapListWrongFalsely : Prop := fnExactMapListRow.holds Tryd.pinned (OpenSpec.ofChange fnExactMapListWrong)

/- THE SECOND FORM. 'bulk': how many values and letters a reading holds, each counted each time it is reached (what is shared counts as often as it is met; a slice's spare places count too). A statement '..UptoSaid' is the law's where the arguments, and the package variables that the reading takes, are together of bulk at most 1048576: NARROWER than '..Said'. Prove '..Said' where nothing that the law and all that it calls make is longer than what came in: it says more and counts as full. Else prove '..UptoSaid'. A law counts once. -/
mutual
def uptoBulk {H : Type} : DataW H → Nat
  | .lit (.string bytes) => bytes.length + 1
  | .lit _ => 1
  | .nil => 1
  | .ptr d => uptoBulk d + 1
  | .slice elems spare => uptoBulkAll elems + uptoBulkAll spare + 1
  | .agg parts => uptoBulkAll parts + 1
  | .iface _ d => uptoBulk d + 1
  | .map entries => uptoBulkEntries entries + 1
  | .held _ => 1
def uptoBulkAll {H : Type} : List (DataW H) → Nat
  | [] => 0
  | d :: r => uptoBulk d + uptoBulkAll r
def uptoBulkEntries {H : Type} : List (Lit × DataW H) → Nat
  | [] => 0
  | x :: r => uptoBulkEntry x + uptoBulkEntries r
def uptoBulkEntry {H : Type} : Lit × DataW H → Nat
  | (.string bytes, d) => bytes.length + uptoBulk d + 1
  | (_, d) => uptoBulk d + 1
 end
def uptoSmall : (H : Type) → List (DataW H) → Bool := fun _ ds => decide (uptoBulkAll ds ≤ 1048576)
def OpenSpec.upto (s : _root_.Go.ChangeSpec) : _root_.Go.OpenSpec := { _root_.Go.OpenSpec.ofChange s with cond := some uptoSmall }

/-- 'laws.FnExactDigits', WHERE WHAT IT READS IS OF BULK AT MOST 1048576: true; the input reads as it did. -/
def fnExactDigitsUptoRow : OpenClaim := { program := "ytcmdilmjdnbfkaadoor", sum := "f3e2b82fa338b063d1fae5f675d2dbcff7330c4e9ba85878655bb89e63ae3d1a", func := "loop.example/g00220/laws.FnExactDigits", spec := "fnExactDigits", named := ["loop.example/g00220/impl.firstWords", "loop.example/g00220/impl.roundWords"], apart := false, laid := [("loop.example/g00220/impl.firstWords", laid_loop_example_g00220_impl_firstWords), ("loop.example/g00220/impl.roundWords", laid_loop_example_g00220_impl_roundWords)], narrowed := true }
def FnExactDigitsUptoSaid : Prop := fnExactDigitsUptoRow.holds Tryd.pinned (OpenSpec.upto fnExactDigitsSpec)

/-- 'laws.FnExactChain', WHERE WHAT IT READS IS OF BULK AT MOST 1048576: true; the input reads as it did. -/
def fnExactChainUptoRow : OpenClaim := { program := "ytcmdilmjdnbfkaadoor", sum := "f3e2b82fa338b063d1fae5f675d2dbcff7330c4e9ba85878655bb89e63ae3d1a", func := "loop.example/g00220/laws.FnExactChain", spec := "fnExactChain", named := ["loop.example/g00220/impl.firstWords", "loop.example/g00220/impl.roundWords"], apart := false, laid := [("loop.example/g00220/impl.firstWords", laid_loop_example_g00220_impl_firstWords), ("loop.example/g00220/impl.roundWords", laid_loop_example_g00220_impl_roundWords)], narrowed := true }
def FnExactChainUptoSaid : Prop := fnExactChainUptoRow.holds Tryd.pinned (OpenSpec.upto fnExactChainSpec)

/-- 'laws.FnExactSecretPart', WHERE WHAT IT READS IS OF BULK AT MOST 1048576: true; the input reads as it did. -/
def fnExactSecretPartUptoRow : OpenClaim := { program := "ytcmdilmjdnbfkaadoor", sum := "f3e2b82fa338b063d1fae5f675d2dbcff7330c4e9ba85878655bb89e63ae3d1a", func := "loop.example/g00220/laws.FnExactSecretPart", spec := "fnExactSecretPart", named := ["loop.example/g00220/impl.firstWords", "loop.example/g00220/impl.roundWords"], apart := false, laid := [("loop.example/g00220/impl.firstWords", laid_loop_example_g00220_impl_firstWords), ("loop.example/g00220/impl.roundWords", laid_loop_example_g00220_impl_roundWords)], narrowed := true }
def FnExactSecretPartUptoSaid : Prop := fnExactSecretPartUptoRow.holds Tryd.pinned (OpenSpec.upto fnExactSecretPartSpec)

/-- 'laws.FnExactMapDrop', WHERE WHAT IT READS IS OF BULK AT MOST 1048576: true; the input reads as it did. -/
def fnExactMapDropUptoRow : OpenClaim := { program := "ytcmdilmjdnbfkaadoor", sum := "f3e2b82fa338b063d1fae5f675d2dbcff7330c4e9ba85878655bb89e63ae3d1a", func := "loop.example/g00220/laws.FnExactMapDrop", spec := "fnExactMapDrop", recurses := true, named := ["loop.example/g00220/impl.firstWords", "loop.example/g00220/impl.roundWords"], loops := true, apart := false, laid := [("loop.example/g00220/impl.firstWords", laid_loop_example_g00220_impl_firstWords), ("loop.example/g00220/impl.roundWords", laid_loop_example_g00220_impl_roundWords)], narrowed := true }
def FnExactMapDropUptoSaid : Prop := fnExactMapDropUptoRow.holds Tryd.pinned (OpenSpec.upto fnExactMapDropSpec)

/-- 'laws.FnExactMapPut', WHERE WHAT IT READS IS OF BULK AT MOST 1048576: true; the input reads as it did. -/
def fnExactMapPutUptoRow : OpenClaim := { program := "ytcmdilmjdnbfkaadoor", sum := "f3e2b82fa338b063d1fae5f675d2dbcff7330c4e9ba85878655bb89e63ae3d1a", func := "loop.example/g00220/laws.FnExactMapPut", spec := "fnExactMapPut", unfollowed := true, recurses := true, named := ["loop.example/g00220/impl.firstWords", "loop.example/g00220/impl.roundWords"], loops := true, apart := false, laid := [("loop.example/g00220/impl.firstWords", laid_loop_example_g00220_impl_firstWords), ("loop.example/g00220/impl.roundWords", laid_loop_example_g00220_impl_roundWords)], narrowed := true }
def FnExactMapPutUptoSaid : Prop := fnExactMapPutUptoRow.holds Tryd.pinned (OpenSpec.upto fnExactMapPutSpec)

/-- 'laws.FnExactMapList', WHERE WHAT IT READS IS OF BULK AT MOST 1048576: true; the input reads as it did. -/
def fnExactMapListUptoRow : OpenClaim := { program := "ytcmdilmjdnbfkaadoor", sum := "f3e2b82fa338b063d1fae5f675d2dbcff7330c4e9ba85878655bb89e63ae3d1a", func := "loop.example/g00220/laws.FnExactMapList", spec := "fnExactMapList", unfollowed := true, recurses := true, named := ["loop.example/g00220/impl.firstWords", "loop.example/g00220/impl.roundWords"], loops := true, apart := false, laid := [("loop.example/g00220/impl.firstWords", laid_loop_example_g00220_impl_firstWords), ("loop.example/g00220/impl.roundWords", laid_loop_example_g00220_impl_roundWords)], narrowed := true }
def FnExactMapListUptoSaid : Prop := fnExactMapListUptoRow.holds Tryd.pinned (OpenSpec.upto fnExactMapListSpec)

end Rows
end Go.Proofs.YtcmdilmjdnbfkaaDoor
