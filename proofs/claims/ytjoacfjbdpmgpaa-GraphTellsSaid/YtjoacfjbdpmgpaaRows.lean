/-
  No cell of these rows narrows 'for every input' (looked for: loops, veiled, ifaces, maps, wideKeys, modest, calm, conditions, laid).
  DERIVED. THE GIVEN ROWS OF THIS SEAT. 6 by the template 'for every input the law returns true; each argument reads behind the call as it read before'; 0 by the template 'total and deterministic' (their statements: YtjoacfjbdpmgpaaTotals.lean).
  GIVEN WITH THE SEED: the statements are not yours to turn. If you find one false, say at which input.
  Laid BY PROGRAM, IN A SANDBOX (cutbox-rows.mjs): the forced cells as the released guide's own fill.sh prints them over the translation 47ae3cbe684bf9db… (all of the seat's roots in one cut). By AI agents, Wed Nov 11 2026. No macro, syntax, notation, axiom, sorry.
-/
import Derived.Test.YtjoacfjbdpmgpaaChecked
import GoSem.Claim
import GoSem.ClaimJoined
import GoSem.ClaimMapViews
import Derived.JoinedTies
import Derived.KernelRfl
namespace Go.Proofs.Ytjoacfjbdpmgpaa
/- THE CELL 'sum', in the pinned program and in every row, IS THE sha256 OF THE DUMP (.gsa) THAT YtjoacfjbdpmgpaaProg.lean LOADS. Nothing in Lean hashes anything: it is a label: what it is worth is what the hold of that sum in a sandbox is worth. -/
noncomputable def Try.pinned : Pinned := { name := "ytjoacfjbdpmgpaa", sum := "47ae3cbe684bf9db63c4ac0d000f7fc3d2ee54eecb0bd0a32cd19b4d9311efe5", checked := Try.checked }
namespace Rows
def none {H : Type} : Left H := { results := [], args := [] }

/-- 'cromlechlaw08.GraphTells': WHATEVER THE INPUT: true; the input reads as it did. -/
def graphTellsSpec : ChangeSpec := { name := "graphTells", fn := fun _ => fun
  | [d1, d2, d3, d4, d5, d6] => { results := [.lit (.bool true)], args := [d1, d2, d3, d4, d5, d6] }
  | _ => none }
def graphTellsRow : OpenClaim := { program := "ytjoacfjbdpmgpaa", sum := "47ae3cbe684bf9db63c4ac0d000f7fc3d2ee54eecb0bd0a32cd19b4d9311efe5", func := "cromlech/cromlechlaw08.GraphTells", spec := "graphTells", unfollowed := true, recurses := true, apart := false }
def GraphTellsSaid : Prop := graphTellsRow.holds Try.pinned (OpenSpec.ofChange graphTellsSpec)

/-- ITS FALSE NEIGHBOUR: 'it returns false'. Refute it at one input. -/
def graphTellsWrong : ChangeSpec := { name := "graphTells", fn := fun _ => fun
  | [d1, d2, d3, d4, d5, d6] => { results := [.lit (.bool false)], args := [d1, d2, d3, d4, d5, d6] }
  | _ => none }
def GraphTellsWrongFalsely : Prop := graphTellsRow.holds Try.pinned (OpenSpec.ofChange graphTellsWrong)

/-- 'cromlechlaw08.GraphSlots': WHATEVER THE INPUT: true; the input reads as it did. -/
def graphSlotsSpec : ChangeSpec := { name := "graphSlots", fn := fun _ => fun
  | [d1, d2, d3, d4, d5, d6] => { results := [.lit (.bool true)], args := [d1, d2, d3, d4, d5, d6] }
  | _ => none }
def graphSlotsRow : OpenClaim := { program := "ytjoacfjbdpmgpaa", sum := "47ae3cbe684bf9db63c4ac0d000f7fc3d2ee54eecb0bd0a32cd19b4d9311efe5", func := "cromlech/cromlechlaw08.GraphSlots", spec := "graphSlots", unfollowed := true, recurses := true, apart := false }
def GraphSlotsSaid : Prop := graphSlotsRow.holds Try.pinned (OpenSpec.ofChange graphSlotsSpec)

/-- ITS FALSE NEIGHBOUR: 'it returns false'. Refute it at one input. -/
def graphSlotsWrong : ChangeSpec := { name := "graphSlots", fn := fun _ => fun
  | [d1, d2, d3, d4, d5, d6] => { results := [.lit (.bool false)], args := [d1, d2, d3, d4, d5, d6] }
  | _ => none }
def GraphSlotsWrongFalsely : Prop := graphSlotsRow.holds Try.pinned (OpenSpec.ofChange graphSlotsWrong)

/-- 'cromlechlaw08.GraphKeeps': WHATEVER THE INPUT: true; the input reads as it did. -/
def graphKeepsSpec : ChangeSpec := { name := "graphKeeps", fn := fun _ => fun
  | [d1, d2, d3, d4] => { results := [.lit (.bool true)], args := [d1, d2, d3, d4] }
  | _ => none }
def graphKeepsRow : OpenClaim := { program := "ytjoacfjbdpmgpaa", sum := "47ae3cbe684bf9db63c4ac0d000f7fc3d2ee54eecb0bd0a32cd19b4d9311efe5", func := "cromlech/cromlechlaw08.GraphKeeps", spec := "graphKeeps", unfollowed := true, recurses := true, apart := false }
def GraphKeepsSaid : Prop := graphKeepsRow.holds Try.pinned (OpenSpec.ofChange graphKeepsSpec)

/-- ITS FALSE NEIGHBOUR: 'it returns false'. Refute it at one input. -/
def graphKeepsWrong : ChangeSpec := { name := "graphKeeps", fn := fun _ => fun
  | [d1, d2, d3, d4] => { results := [.lit (.bool false)], args := [d1, d2, d3, d4] }
  | _ => none }
def GraphKeepsWrongFalsely : Prop := graphKeepsRow.holds Try.pinned (OpenSpec.ofChange graphKeepsWrong)

/-- 'cromlechlaw08.GraphRoots': WHATEVER THE INPUT: true; the input reads as it did. -/
def graphRootsSpec : ChangeSpec := { name := "graphRoots", fn := fun _ => fun
  | [d1, d2, d3, d4, d5, d6] => { results := [.lit (.bool true)], args := [d1, d2, d3, d4, d5, d6] }
  | _ => none }
def graphRootsRow : OpenClaim := { program := "ytjoacfjbdpmgpaa", sum := "47ae3cbe684bf9db63c4ac0d000f7fc3d2ee54eecb0bd0a32cd19b4d9311efe5", func := "cromlech/cromlechlaw08.GraphRoots", spec := "graphRoots", unfollowed := true, recurses := true, apart := false }
def GraphRootsSaid : Prop := graphRootsRow.holds Try.pinned (OpenSpec.ofChange graphRootsSpec)

/-- ITS FALSE NEIGHBOUR: 'it returns false'. Refute it at one input. -/
def graphRootsWrong : ChangeSpec := { name := "graphRoots", fn := fun _ => fun
  | [d1, d2, d3, d4, d5, d6] => { results := [.lit (.bool false)], args := [d1, d2, d3, d4, d5, d6] }
  | _ => none }
def GraphRootsWrongFalsely : Prop := graphRootsRow.holds Try.pinned (OpenSpec.ofChange graphRootsWrong)

/-- 'cromlechlaw08.GraphRuns': WHATEVER THE INPUT: true; the input reads as it did. -/
def graphRunsSpec : ChangeSpec := { name := "graphRuns", fn := fun _ => fun
  | [d1, d2, d3, d4, d5, d6] => { results := [.lit (.bool true)], args := [d1, d2, d3, d4, d5, d6] }
  | _ => none }
def graphRunsRow : OpenClaim := { program := "ytjoacfjbdpmgpaa", sum := "47ae3cbe684bf9db63c4ac0d000f7fc3d2ee54eecb0bd0a32cd19b4d9311efe5", func := "cromlech/cromlechlaw08.GraphRuns", spec := "graphRuns", unfollowed := true, recurses := true, apart := false }
def GraphRunsSaid : Prop := graphRunsRow.holds Try.pinned (OpenSpec.ofChange graphRunsSpec)

/-- ITS FALSE NEIGHBOUR: 'it returns false'. Refute it at one input. -/
def graphRunsWrong : ChangeSpec := { name := "graphRuns", fn := fun _ => fun
  | [d1, d2, d3, d4, d5, d6] => { results := [.lit (.bool false)], args := [d1, d2, d3, d4, d5, d6] }
  | _ => none }
def GraphRunsWrongFalsely : Prop := graphRunsRow.holds Try.pinned (OpenSpec.ofChange graphRunsWrong)

/-- 'cromlechlaw08.GraphShape': WHATEVER THE INPUT: true; the input reads as it did. -/
def graphShapeSpec : ChangeSpec := { name := "graphShape", fn := fun _ => fun
  | [d1, d2, d3, d4, d5] => { results := [.lit (.bool true)], args := [d1, d2, d3, d4, d5] }
  | _ => none }
def graphShapeRow : OpenClaim := { program := "ytjoacfjbdpmgpaa", sum := "47ae3cbe684bf9db63c4ac0d000f7fc3d2ee54eecb0bd0a32cd19b4d9311efe5", func := "cromlech/cromlechlaw08.GraphShape", spec := "graphShape", unfollowed := true, recurses := true, apart := false }
def GraphShapeSaid : Prop := graphShapeRow.holds Try.pinned (OpenSpec.ofChange graphShapeSpec)

/-- ITS FALSE NEIGHBOUR: 'it returns false'. Refute it at one input. -/
def graphShapeWrong : ChangeSpec := { name := "graphShape", fn := fun _ => fun
  | [d1, d2, d3, d4, d5] => { results := [.lit (.bool false)], args := [d1, d2, d3, d4, d5] }
  | _ => none }
def GraphShapeWrongFalsely : Prop := graphShapeRow.holds Try.pinned (OpenSpec.ofChange graphShapeWrong)

/- THE SECOND FORM. 'bulk': how many values and letters a reading holds, each counted each time it is reached (what is shared counts as often as it is met; a slice's spare places count too). A statement '..UptoSaid' is the law's where the arguments, and the package variables that the reading takes, are together of bulk at most 1048576: NARROWER than '..Said'. Prove '..Said' where nothing that the law and all that it calls make is longer than what came in: it says more and counts as full. Else prove '..UptoSaid'. A law counts once. -/
mutual
def uptoBulk {H : Type} : DataW H → Nat
  | .lit (.string bytes) => bytes.length + 1
  | .lit _ => 1
  | .nil => 1
  | .ptr d => uptoBulk d + 1
  | .slice elems spare => uptoBulkAll elems + uptoBulkAll spare + 1
  | .agg parts => uptoBulkAll parts + 1
  | .iface _ d => uptoBulk d + 1
  | .map entries => uptoBulkEntries entries + 1
  | .held _ => 1
def uptoBulkAll {H : Type} : List (DataW H) → Nat
  | [] => 0
  | d :: r => uptoBulk d + uptoBulkAll r
def uptoBulkEntries {H : Type} : List (Lit × DataW H) → Nat
  | [] => 0
  | x :: r => uptoBulkEntry x + uptoBulkEntries r
def uptoBulkEntry {H : Type} : Lit × DataW H → Nat
  | (.string bytes, d) => bytes.length + uptoBulk d + 1
  | (_, d) => uptoBulk d + 1
 end
def uptoSmall : (H : Type) → List (DataW H) → Bool := fun _ ds => decide (uptoBulkAll ds ≤ 1048576)
def OpenSpec.upto (s : _root_.Go.ChangeSpec) : _root_.Go.OpenSpec := { _root_.Go.OpenSpec.ofChange s with cond := some uptoSmall }

/-- 'cromlechlaw08.GraphTells', WHERE WHAT IT READS IS OF BULK AT MOST 1048576: true; the input reads as it did. -/
def graphTellsUptoRow : OpenClaim := { program := "ytjoacfjbdpmgpaa", sum := "47ae3cbe684bf9db63c4ac0d000f7fc3d2ee54eecb0bd0a32cd19b4d9311efe5", func := "cromlech/cromlechlaw08.GraphTells", spec := "graphTells", unfollowed := true, recurses := true, apart := false, narrowed := true }
def GraphTellsUptoSaid : Prop := graphTellsUptoRow.holds Try.pinned (OpenSpec.upto graphTellsSpec)

/-- 'cromlechlaw08.GraphSlots', WHERE WHAT IT READS IS OF BULK AT MOST 1048576: true; the input reads as it did. -/
def graphSlotsUptoRow : OpenClaim := { program := "ytjoacfjbdpmgpaa", sum := "47ae3cbe684bf9db63c4ac0d000f7fc3d2ee54eecb0bd0a32cd19b4d9311efe5", func := "cromlech/cromlechlaw08.GraphSlots", spec := "graphSlots", unfollowed := true, recurses := true, apart := false, narrowed := true }
def GraphSlotsUptoSaid : Prop := graphSlotsUptoRow.holds Try.pinned (OpenSpec.upto graphSlotsSpec)

/-- 'cromlechlaw08.GraphKeeps', WHERE WHAT IT READS IS OF BULK AT MOST 1048576: true; the input reads as it did. -/
def graphKeepsUptoRow : OpenClaim := { program := "ytjoacfjbdpmgpaa", sum := "47ae3cbe684bf9db63c4ac0d000f7fc3d2ee54eecb0bd0a32cd19b4d9311efe5", func := "cromlech/cromlechlaw08.GraphKeeps", spec := "graphKeeps", unfollowed := true, recurses := true, apart := false, narrowed := true }
def GraphKeepsUptoSaid : Prop := graphKeepsUptoRow.holds Try.pinned (OpenSpec.upto graphKeepsSpec)

/-- 'cromlechlaw08.GraphRoots', WHERE WHAT IT READS IS OF BULK AT MOST 1048576: true; the input reads as it did. -/
def graphRootsUptoRow : OpenClaim := { program := "ytjoacfjbdpmgpaa", sum := "47ae3cbe684bf9db63c4ac0d000f7fc3d2ee54eecb0bd0a32cd19b4d9311efe5", func := "cromlech/cromlechlaw08.GraphRoots", spec := "graphRoots", unfollowed := true, recurses := true, apart := false, narrowed := true }
def GraphRootsUptoSaid : Prop := graphRootsUptoRow.holds Try.pinned (OpenSpec.upto graphRootsSpec)

/-- 'cromlechlaw08.GraphRuns', WHERE WHAT IT READS IS OF BULK AT MOST 1048576: true; the input reads as it did. -/
def graphRunsUptoRow : OpenClaim := { program := "ytjoacfjbdpmgpaa", sum := "47ae3cbe684bf9db63c4ac0d000f7fc3d2ee54eecb0bd0a32cd19b4d9311efe5", func := "cromlech/cromlechlaw08.GraphRuns", spec := "graphRuns", unfollowed := true, recurses := true, apart := false, narrowed := true }
def GraphRunsUptoSaid : Prop := graphRunsUptoRow.holds Try.pinned (OpenSpec.upto graphRunsSpec)

/-- 'cromlechlaw08.GraphShape', WHERE WHAT IT READS IS OF BULK AT MOST 1048576: true; the input reads as it did. -/
def graphShapeUptoRow : OpenClaim := { program := "ytjoacfjbdpmgpaa", sum := "47ae3cbe684bf9db63c4ac0d000f7fc3d2ee54eecb0bd0a32cd19b4d9311efe5", func := "cromlech/cromlechlaw08.GraphShape", spec := "graphShape", unfollowed := true, recurses := true, apart := false, narrowed := true }
def GraphShapeUptoSaid : Prop := graphShapeUptoRow.holds Try.pinned (OpenSpec.upto graphShapeSpec)

end Rows
end Go.Proofs.Ytjoacfjbdpmgpaa
