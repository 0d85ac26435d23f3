/-
  No cell of these rows narrows 'for every input' (looked for: loops, veiled, ifaces, maps, wideKeys, modest, calm, conditions, laid).
  DERIVED. THE GIVEN ROWS OF THIS SEAT. 3 by the template 'for every input the law returns true; each argument reads behind the call as it read before'; 0 by the template 'total and deterministic' (their statements: YtjbcfflbfnddeacTotals.lean).
  GIVEN WITH THE SEED: the statements are not yours to turn. If you find one false, say at which input.
  Laid BY PROGRAM, IN A SANDBOX (cutbox-rows.mjs): the forced cells as the released guide's own fill.sh prints them over the translation 84eef365d56ddbc3… (all of the seat's roots in one cut). By AI agents, Wed Nov 11 2026. No macro, syntax, notation, axiom, sorry.
-/
import Derived.Test.YtjbcfflbfnddeacChecked
import GoSem.Claim
import GoSem.ClaimJoined
import GoSem.ClaimMapViews
import Derived.JoinedTies
import Derived.KernelRfl
namespace Go.Proofs.Ytjbcfflbfnddeac
/- THE CELL 'sum', in the pinned program and in every row, IS THE sha256 OF THE DUMP (.gsa) THAT YtjbcfflbfnddeacProg.lean LOADS. Nothing in Lean hashes anything: it is a label: what it is worth is what the hold of that sum in a sandbox is worth. -/
noncomputable def Try.pinned : Pinned := { name := "ytjbcfflbfnddeac", sum := "84eef365d56ddbc3a85dc16b66012fd6f8432a8087aa2a5fd74a7f0c5f413a97", checked := Try.checked }
namespace Rows
def none {H : Type} : Left H := { results := [], args := [] }

/-- 'carillonlaw.FairSays': WHATEVER THE INPUT: true; the input reads as it did. -/
def fairSaysSpec : ChangeSpec := { name := "fairSays", fn := fun _ => fun
  | [d] => { results := [.lit (.bool true)], args := [d] }
  | _ => none }
def fairSaysRow : OpenClaim := { program := "ytjbcfflbfnddeac", sum := "84eef365d56ddbc3a85dc16b66012fd6f8432a8087aa2a5fd74a7f0c5f413a97", func := "carillon/carillonlaw.FairSays", spec := "fairSays", inPlace := ["internal/bytealg.IndexByteString", "internal/bytealg.IndexString"], unfollowed := true, recurses := true, named := ["internal/bytealg.MaxLen"], apart := false }
def FairSaysSaid : Prop := fairSaysRow.holds Try.pinned (OpenSpec.ofChange fairSaysSpec)

/-- ITS FALSE NEIGHBOUR: 'it returns false'. Refute it at one input. -/
def fairSaysWrong : ChangeSpec := { name := "fairSays", fn := fun _ => fun
  | [d] => { results := [.lit (.bool false)], args := [d] }
  | _ => none }
def FairSaysWrongFalsely : Prop := fairSaysRow.holds Try.pinned (OpenSpec.ofChange fairSaysWrong)

/-- 'carillonlaw.FairBook': WHATEVER THE INPUT: true; the input reads as it did. -/
def fairBookSpec : ChangeSpec := { name := "fairBook", fn := fun _ => fun
  | [d] => { results := [.lit (.bool true)], args := [d] }
  | _ => none }
def fairBookRow : OpenClaim := { program := "ytjbcfflbfnddeac", sum := "84eef365d56ddbc3a85dc16b66012fd6f8432a8087aa2a5fd74a7f0c5f413a97", func := "carillon/carillonlaw.FairBook", spec := "fairBook", inPlace := ["slices.overlaps[carillon/api.Job]"], unfollowed := true, recurses := true, apart := false }
def FairBookSaid : Prop := fairBookRow.holds Try.pinned (OpenSpec.ofChange fairBookSpec)

/-- ITS FALSE NEIGHBOUR: 'it returns false'. Refute it at one input. -/
def fairBookWrong : ChangeSpec := { name := "fairBook", fn := fun _ => fun
  | [d] => { results := [.lit (.bool false)], args := [d] }
  | _ => none }
def FairBookWrongFalsely : Prop := fairBookRow.holds Try.pinned (OpenSpec.ofChange fairBookWrong)

/-- 'carillonlaw.FairSteady': WHATEVER THE INPUT: true; the input reads as it did. -/
def fairSteadySpec : ChangeSpec := { name := "fairSteady", fn := fun _ => fun
  | [d] => { results := [.lit (.bool true)], args := [d] }
  | _ => none }
def fairSteadyRow : OpenClaim := { program := "ytjbcfflbfnddeac", sum := "84eef365d56ddbc3a85dc16b66012fd6f8432a8087aa2a5fd74a7f0c5f413a97", func := "carillon/carillonlaw.FairSteady", spec := "fairSteady", inPlace := ["slices.overlaps[carillon/api.Job]"], unfollowed := true, recurses := true, apart := false }
def FairSteadySaid : Prop := fairSteadyRow.holds Try.pinned (OpenSpec.ofChange fairSteadySpec)

/-- ITS FALSE NEIGHBOUR: 'it returns false'. Refute it at one input. -/
def fairSteadyWrong : ChangeSpec := { name := "fairSteady", fn := fun _ => fun
  | [d] => { results := [.lit (.bool false)], args := [d] }
  | _ => none }
def FairSteadyWrongFalsely : Prop := fairSteadyRow.holds Try.pinned (OpenSpec.ofChange fairSteadyWrong)

/- THE SECOND FORM. 'bulk': how many values and letters a reading holds, each counted each time it is reached (what is shared counts as often as it is met; a slice's spare places count too). A statement '..UptoSaid' is the law's where the arguments, and the package variables that the reading takes, are together of bulk at most 1048576: NARROWER than '..Said'. Prove '..Said' where nothing that the law and all that it calls make is longer than what came in: it says more and counts as full. Else prove '..UptoSaid'. A law counts once. -/
mutual
def uptoBulk {H : Type} : DataW H → Nat
  | .lit (.string bytes) => bytes.length + 1
  | .lit _ => 1
  | .nil => 1
  | .ptr d => uptoBulk d + 1
  | .slice elems spare => uptoBulkAll elems + uptoBulkAll spare + 1
  | .agg parts => uptoBulkAll parts + 1
  | .iface _ d => uptoBulk d + 1
  | .map entries => uptoBulkEntries entries + 1
  | .held _ => 1
def uptoBulkAll {H : Type} : List (DataW H) → Nat
  | [] => 0
  | d :: r => uptoBulk d + uptoBulkAll r
def uptoBulkEntries {H : Type} : List (Lit × DataW H) → Nat
  | [] => 0
  | x :: r => uptoBulkEntry x + uptoBulkEntries r
def uptoBulkEntry {H : Type} : Lit × DataW H → Nat
  | (.string bytes, d) => bytes.length + uptoBulk d + 1
  | (_, d) => uptoBulk d + 1
 end
def uptoSmall : (H : Type) → List (DataW H) → Bool := fun _ ds => decide (uptoBulkAll ds ≤ 1048576)
def OpenSpec.upto (s : _root_.Go.ChangeSpec) : _root_.Go.OpenSpec := { _root_.Go.OpenSpec.ofChange s with cond := some uptoSmall }

/-- 'carillonlaw.FairSays', WHERE WHAT IT READS IS OF BULK AT MOST 1048576: true; the input reads as it did. -/
def fairSaysUptoRow : OpenClaim := { program := "ytjbcfflbfnddeac", sum := "84eef365d56ddbc3a85dc16b66012fd6f8432a8087aa2a5fd74a7f0c5f413a97", func := "carillon/carillonlaw.FairSays", spec := "fairSays", inPlace := ["internal/bytealg.IndexByteString", "internal/bytealg.IndexString"], unfollowed := true, recurses := true, named := ["internal/bytealg.MaxLen"], apart := false, narrowed := true }
def FairSaysUptoSaid : Prop := fairSaysUptoRow.holds Try.pinned (OpenSpec.upto fairSaysSpec)

/-- 'carillonlaw.FairBook', WHERE WHAT IT READS IS OF BULK AT MOST 1048576: true; the input reads as it did. -/
def fairBookUptoRow : OpenClaim := { program := "ytjbcfflbfnddeac", sum := "84eef365d56ddbc3a85dc16b66012fd6f8432a8087aa2a5fd74a7f0c5f413a97", func := "carillon/carillonlaw.FairBook", spec := "fairBook", inPlace := ["slices.overlaps[carillon/api.Job]"], unfollowed := true, recurses := true, apart := false, narrowed := true }
def FairBookUptoSaid : Prop := fairBookUptoRow.holds Try.pinned (OpenSpec.upto fairBookSpec)

/-- 'carillonlaw.FairSteady', WHERE WHAT IT READS IS OF BULK AT MOST 1048576: true; the input reads as it did. -/
def fairSteadyUptoRow : OpenClaim := { program := "ytjbcfflbfnddeac", sum := "84eef365d56ddbc3a85dc16b66012fd6f8432a8087aa2a5fd74a7f0c5f413a97", func := "carillon/carillonlaw.FairSteady", spec := "fairSteady", inPlace := ["slices.overlaps[carillon/api.Job]"], unfollowed := true, recurses := true, apart := false, narrowed := true }
def FairSteadyUptoSaid : Prop := fairSteadyUptoRow.holds Try.pinned (OpenSpec.upto fairSteadySpec)

end Rows
end Go.Proofs.Ytjbcfflbfnddeac
