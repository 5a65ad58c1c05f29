/-
  No cell of these rows narrows 'for every input' (looked for: loops, veiled, ifaces, maps, wideKeys, modest, calm, conditions, laid).
  DERIVED. THE GIVEN ROWS OF THIS SEAT. 5 by the template 'for every input the law returns true; each argument reads behind the call as it read before'; 0 by the template 'total and deterministic' (their statements: YtbhkhkiidaemcaaTotals.lean).
  GIVEN WITH THE SEED: the statements are not yours to turn. If you find one false, say at which input.
  Laid BY PROGRAM, IN A SANDBOX (cutbox-rows.mjs): the forced cells as the released guide's own fill.sh prints them over the translation dad931578d7c9e18… (all of the seat's roots in one cut). By AI agents, Wed Nov 11 2026. No macro, syntax, notation, axiom, sorry.
-/
import Derived.Test.YtbhkhkiidaemcaaChecked
import GoSem.Claim
import GoSem.ClaimJoined
import GoSem.ClaimMapViews
import Derived.JoinedTies
import Derived.KernelRfl
namespace Go.Proofs.Ytbhkhkiidaemcaa
/- THE CELL 'sum', in the pinned program and in every row, IS THE sha256 OF THE DUMP (.gsa) THAT YtbhkhkiidaemcaaProg.lean LOADS. Nothing in Lean hashes anything: it is a label: what it is worth is what the hold of that sum in a sandbox is worth. -/
noncomputable def Try.pinned : Pinned := { name := "ytbhkhkiidaemcaa", sum := "dad931578d7c9e18b4d2b2588e22949b9fff6aad10e25aac90f89f262fc48f7f", checked := Try.checked }
namespace Rows
def none {H : Type} : Left H := { results := [], args := [] }

/-- 'casematelaw23.EntryKeys': WHATEVER THE INPUT: true; the input reads as it did. -/
def entryKeysSpec : ChangeSpec := { name := "entryKeys", fn := fun _ => fun
  | [d1, d2, d3] => { results := [.lit (.bool true)], args := [d1, d2, d3] }
  | _ => none }
def entryKeysRow : OpenClaim := { program := "ytbhkhkiidaemcaa", sum := "dad931578d7c9e18b4d2b2588e22949b9fff6aad10e25aac90f89f262fc48f7f", func := "casemate/casematelaw23.EntryKeys", spec := "entryKeys", unfollowed := true, recurses := true, apart := false }
def EntryKeysSaid : Prop := entryKeysRow.holds Try.pinned (OpenSpec.ofChange entryKeysSpec)

/-- ITS FALSE NEIGHBOUR: 'it returns false'. Refute it at one input. -/
def entryKeysWrong : ChangeSpec := { name := "entryKeys", fn := fun _ => fun
  | [d1, d2, d3] => { results := [.lit (.bool false)], args := [d1, d2, d3] }
  | _ => none }
def EntryKeysWrongFalsely : Prop := entryKeysRow.holds Try.pinned (OpenSpec.ofChange entryKeysWrong)

/-- 'casematelaw23.EntryVolumes': WHATEVER THE INPUT: true; the input reads as it did. -/
def entryVolumesSpec : ChangeSpec := { name := "entryVolumes", fn := fun _ => fun
  | [d1, d2, d3, d4] => { results := [.lit (.bool true)], args := [d1, d2, d3, d4] }
  | _ => none }
def entryVolumesRow : OpenClaim := { program := "ytbhkhkiidaemcaa", sum := "dad931578d7c9e18b4d2b2588e22949b9fff6aad10e25aac90f89f262fc48f7f", func := "casemate/casematelaw23.EntryVolumes", spec := "entryVolumes", unfollowed := true, recurses := true, apart := false }
def EntryVolumesSaid : Prop := entryVolumesRow.holds Try.pinned (OpenSpec.ofChange entryVolumesSpec)

/-- ITS FALSE NEIGHBOUR: 'it returns false'. Refute it at one input. -/
def entryVolumesWrong : ChangeSpec := { name := "entryVolumes", fn := fun _ => fun
  | [d1, d2, d3, d4] => { results := [.lit (.bool false)], args := [d1, d2, d3, d4] }
  | _ => none }
def EntryVolumesWrongFalsely : Prop := entryVolumesRow.holds Try.pinned (OpenSpec.ofChange entryVolumesWrong)

/-- 'casematelaw23.EntryTenants': WHATEVER THE INPUT: true; the input reads as it did. -/
def entryTenantsSpec : ChangeSpec := { name := "entryTenants", fn := fun _ => fun
  | [d1, d2, d3] => { results := [.lit (.bool true)], args := [d1, d2, d3] }
  | _ => none }
def entryTenantsRow : OpenClaim := { program := "ytbhkhkiidaemcaa", sum := "dad931578d7c9e18b4d2b2588e22949b9fff6aad10e25aac90f89f262fc48f7f", func := "casemate/casematelaw23.EntryTenants", spec := "entryTenants", unfollowed := true, recurses := true, apart := false }
def EntryTenantsSaid : Prop := entryTenantsRow.holds Try.pinned (OpenSpec.ofChange entryTenantsSpec)

/-- ITS FALSE NEIGHBOUR: 'it returns false'. Refute it at one input. -/
def entryTenantsWrong : ChangeSpec := { name := "entryTenants", fn := fun _ => fun
  | [d1, d2, d3] => { results := [.lit (.bool false)], args := [d1, d2, d3] }
  | _ => none }
def EntryTenantsWrongFalsely : Prop := entryTenantsRow.holds Try.pinned (OpenSpec.ofChange entryTenantsWrong)

/-- 'casematelaw23.EntryBack': WHATEVER THE INPUT: true; the input reads as it did. -/
def entryBackSpec : ChangeSpec := { name := "entryBack", fn := fun _ => fun
  | [d1, d2, d3, d4, d5, d6] => { results := [.lit (.bool true)], args := [d1, d2, d3, d4, d5, d6] }
  | _ => none }
def entryBackRow : OpenClaim := { program := "ytbhkhkiidaemcaa", sum := "dad931578d7c9e18b4d2b2588e22949b9fff6aad10e25aac90f89f262fc48f7f", func := "casemate/casematelaw23.EntryBack", spec := "entryBack", unfollowed := true, recurses := true, apart := false }
def EntryBackSaid : Prop := entryBackRow.holds Try.pinned (OpenSpec.ofChange entryBackSpec)

/-- ITS FALSE NEIGHBOUR: 'it returns false'. Refute it at one input. -/
def entryBackWrong : ChangeSpec := { name := "entryBack", fn := fun _ => fun
  | [d1, d2, d3, d4, d5, d6] => { results := [.lit (.bool false)], args := [d1, d2, d3, d4, d5, d6] }
  | _ => none }
def EntryBackWrongFalsely : Prop := entryBackRow.holds Try.pinned (OpenSpec.ofChange entryBackWrong)

/-- 'casematelaw23.EntryApart': WHATEVER THE INPUT: true; the input reads as it did. -/
def entryApartSpec : ChangeSpec := { name := "entryApart", fn := fun _ => fun
  | [d1, d2, d3, d4] => { results := [.lit (.bool true)], args := [d1, d2, d3, d4] }
  | _ => none }
def entryApartRow : OpenClaim := { program := "ytbhkhkiidaemcaa", sum := "dad931578d7c9e18b4d2b2588e22949b9fff6aad10e25aac90f89f262fc48f7f", func := "casemate/casematelaw23.EntryApart", spec := "entryApart", unfollowed := true, recurses := true, apart := false }
def EntryApartSaid : Prop := entryApartRow.holds Try.pinned (OpenSpec.ofChange entryApartSpec)

/-- ITS FALSE NEIGHBOUR: 'it returns false'. Refute it at one input. -/
def entryApartWrong : ChangeSpec := { name := "entryApart", fn := fun _ => fun
  | [d1, d2, d3, d4] => { results := [.lit (.bool false)], args := [d1, d2, d3, d4] }
  | _ => none }
def EntryApartWrongFalsely : Prop := entryApartRow.holds Try.pinned (OpenSpec.ofChange entryApartWrong)

/- THE SECOND FORM. 'bulk': how many values and letters a reading holds, each counted each time it is reached (what is shared counts as often as it is met; a slice's spare places count too). A statement '..UptoSaid' is the law's where the arguments, and the package variables that the reading takes, are together of bulk at most 1048576: NARROWER than '..Said'. Prove '..Said' where nothing that the law and all that it calls make is longer than what came in: it says more and counts as full. Else prove '..UptoSaid'. A law counts once. -/
mutual
def uptoBulk {H : Type} : DataW H → Nat
  | .lit (.string bytes) => bytes.length + 1
  | .lit _ => 1
  | .nil => 1
  | .ptr d => uptoBulk d + 1
  | .slice elems spare => uptoBulkAll elems + uptoBulkAll spare + 1
  | .agg parts => uptoBulkAll parts + 1
  | .iface _ d => uptoBulk d + 1
  | .map entries => uptoBulkEntries entries + 1
  | .held _ => 1
def uptoBulkAll {H : Type} : List (DataW H) → Nat
  | [] => 0
  | d :: r => uptoBulk d + uptoBulkAll r
def uptoBulkEntries {H : Type} : List (Lit × DataW H) → Nat
  | [] => 0
  | x :: r => uptoBulkEntry x + uptoBulkEntries r
def uptoBulkEntry {H : Type} : Lit × DataW H → Nat
  | (.string bytes, d) => bytes.length + uptoBulk d + 1
  | (_, d) => uptoBulk d + 1
 end
def uptoSmall : (H : Type) → List (DataW H) → Bool := fun _ ds => decide (uptoBulkAll ds ≤ 1048576)
def OpenSpec.upto (s : _root_.Go.ChangeSpec) : _root_.Go.OpenSpec := { _root_.Go.OpenSpec.ofChange s with cond := some uptoSmall }

/-- 'casematelaw23.EntryKeys', WHERE WHAT IT READS IS OF BULK AT MOST 1048576: true; the input reads as it did. -/
def entryKeysUptoRow : OpenClaim := { program := "ytbhkhkiidaemcaa", sum := "dad931578d7c9e18b4d2b2588e22949b9fff6aad10e25aac90f89f262fc48f7f", func := "casemate/casematelaw23.EntryKeys", spec := "entryKeys", unfollowed := true, recurses := true, apart := false, narrowed := true }
def EntryKeysUptoSaid : Prop := entryKeysUptoRow.holds Try.pinned (OpenSpec.upto entryKeysSpec)

/-- 'casematelaw23.EntryVolumes', WHERE WHAT IT READS IS OF BULK AT MOST 1048576: true; the input reads as it did. -/
def entryVolumesUptoRow : OpenClaim := { program := "ytbhkhkiidaemcaa", sum := "dad931578d7c9e18b4d2b2588e22949b9fff6aad10e25aac90f89f262fc48f7f", func := "casemate/casematelaw23.EntryVolumes", spec := "entryVolumes", unfollowed := true, recurses := true, apart := false, narrowed := true }
def EntryVolumesUptoSaid : Prop := entryVolumesUptoRow.holds Try.pinned (OpenSpec.upto entryVolumesSpec)

/-- 'casematelaw23.EntryTenants', WHERE WHAT IT READS IS OF BULK AT MOST 1048576: true; the input reads as it did. -/
def entryTenantsUptoRow : OpenClaim := { program := "ytbhkhkiidaemcaa", sum := "dad931578d7c9e18b4d2b2588e22949b9fff6aad10e25aac90f89f262fc48f7f", func := "casemate/casematelaw23.EntryTenants", spec := "entryTenants", unfollowed := true, recurses := true, apart := false, narrowed := true }
def EntryTenantsUptoSaid : Prop := entryTenantsUptoRow.holds Try.pinned (OpenSpec.upto entryTenantsSpec)

/-- 'casematelaw23.EntryBack', WHERE WHAT IT READS IS OF BULK AT MOST 1048576: true; the input reads as it did. -/
def entryBackUptoRow : OpenClaim := { program := "ytbhkhkiidaemcaa", sum := "dad931578d7c9e18b4d2b2588e22949b9fff6aad10e25aac90f89f262fc48f7f", func := "casemate/casematelaw23.EntryBack", spec := "entryBack", unfollowed := true, recurses := true, apart := false, narrowed := true }
def EntryBackUptoSaid : Prop := entryBackUptoRow.holds Try.pinned (OpenSpec.upto entryBackSpec)

/-- 'casematelaw23.EntryApart', WHERE WHAT IT READS IS OF BULK AT MOST 1048576: true; the input reads as it did. -/
def entryApartUptoRow : OpenClaim := { program := "ytbhkhkiidaemcaa", sum := "dad931578d7c9e18b4d2b2588e22949b9fff6aad10e25aac90f89f262fc48f7f", func := "casemate/casematelaw23.EntryApart", spec := "entryApart", unfollowed := true, recurses := true, apart := false, narrowed := true }
def EntryApartUptoSaid : Prop := entryApartUptoRow.holds Try.pinned (OpenSpec.upto entryApartSpec)

end Rows
end Go.Proofs.Ytbhkhkiidaemcaa
