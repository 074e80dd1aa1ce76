/-
  No cell of these rows narrows 'for every input' (looked for: loops, veiled, ifaces, maps, wideKeys, modest, calm, conditions, laid).
  DERIVED. THE GIVEN ROWS OF THIS SEAT. 9 by the template 'for every input the law returns true; each argument reads behind the call as it read before'; 0 by the template 'total and deterministic' (their statements: YtfhncfghblkgeaaGreatTotals.lean).
  GIVEN WITH THE SEED: the statements are not yours to turn. If you find one false, say at which input.
  Laid BY PROGRAM, IN A SANDBOX (cutbox-rows.mjs): the forced cells as the released guide's own fill.sh prints them over the translation 1e97a47c04f9482c… (all of the seat's roots in one cut). By AI agents, Wed Nov 11 2026. No macro, syntax, notation, axiom, sorry.
-/
import Derived.Test.YtfhncfghblkgeaaGreatChecked
import GoSem.Claim
import GoSem.ClaimJoined
import GoSem.ClaimMapViews
import Derived.JoinedTies
import Derived.KernelRfl
namespace Go.Proofs.YtfhncfghblkgeaaGreat
/- THE CELL 'sum', in the pinned program and in every row, IS THE sha256 OF THE DUMP (.gsa) THAT YtfhncfghblkgeaaGreatProg.lean LOADS. Nothing in Lean hashes anything: it is a label: what it is worth is what the hold of that sum in a sandbox is worth. -/
noncomputable def Tryz.pinned : Pinned := { name := "ytfhncfghblkgeaagreat", sum := "1e97a47c04f9482cd1d0a1581f670026080aba0fdeac9da2b665a94747866261", checked := Tryz.checked }
namespace Rows
def none {H : Type} : Left H := { results := [], args := [] }

/-- 'salelaw.Checks': WHATEVER THE INPUT: true; the input reads as it did. -/
def checksSpec : ChangeSpec := { name := "checks", fn := fun _ => fun
  | [d1, d2] => { results := [.lit (.bool true)], args := [d1, d2] }
  | _ => none }
def checksRow : OpenClaim := { program := "ytfhncfghblkgeaagreat", sum := "1e97a47c04f9482cd1d0a1581f670026080aba0fdeac9da2b665a94747866261", func := "sale/salelaw.Checks", spec := "checks", recurses := true, apart := false }
def ChecksSaid : Prop := checksRow.holds Tryz.pinned (OpenSpec.ofChange checksSpec)

/-- ITS FALSE NEIGHBOUR: 'it returns false'. Refute it at one input. -/
def checksWrong : ChangeSpec := { name := "checks", fn := fun _ => fun
  | [d1, d2] => { results := [.lit (.bool false)], args := [d1, d2] }
  | _ => none }
def ChecksWrongFalsely : Prop := checksRow.holds Tryz.pinned (OpenSpec.ofChange checksWrong)

/-- 'salelaw.Codes': WHATEVER THE INPUT: true; the input reads as it did. -/
def codesSpec : ChangeSpec := { name := "codes", fn := fun _ => fun
  | [d1, d2] => { results := [.lit (.bool true)], args := [d1, d2] }
  | _ => none }
def codesRow : OpenClaim := { program := "ytfhncfghblkgeaagreat", sum := "1e97a47c04f9482cd1d0a1581f670026080aba0fdeac9da2b665a94747866261", func := "sale/salelaw.Codes", spec := "codes", recurses := true, apart := false }
def CodesSaid : Prop := codesRow.holds Tryz.pinned (OpenSpec.ofChange codesSpec)

/-- ITS FALSE NEIGHBOUR: 'it returns false'. Refute it at one input. -/
def codesWrong : ChangeSpec := { name := "codes", fn := fun _ => fun
  | [d1, d2] => { results := [.lit (.bool false)], args := [d1, d2] }
  | _ => none }
def CodesWrongFalsely : Prop := codesRow.holds Tryz.pinned (OpenSpec.ofChange codesWrong)

/-- 'salelaw.Wheels': WHATEVER THE INPUT: true; the input reads as it did. -/
def wheelsSpec : ChangeSpec := { name := "wheels", fn := fun _ => fun
  | [d1, d2] => { results := [.lit (.bool true)], args := [d1, d2] }
  | _ => none }
def wheelsRow : OpenClaim := { program := "ytfhncfghblkgeaagreat", sum := "1e97a47c04f9482cd1d0a1581f670026080aba0fdeac9da2b665a94747866261", func := "sale/salelaw.Wheels", spec := "wheels", recurses := true, apart := false }
def WheelsSaid : Prop := wheelsRow.holds Tryz.pinned (OpenSpec.ofChange wheelsSpec)

/-- ITS FALSE NEIGHBOUR: 'it returns false'. Refute it at one input. -/
def wheelsWrong : ChangeSpec := { name := "wheels", fn := fun _ => fun
  | [d1, d2] => { results := [.lit (.bool false)], args := [d1, d2] }
  | _ => none }
def WheelsWrongFalsely : Prop := wheelsRow.holds Tryz.pinned (OpenSpec.ofChange wheelsWrong)

/-- 'salelaw.Sends': WHATEVER THE INPUT: true; the input reads as it did. -/
def sendsSpec : ChangeSpec := { name := "sends", fn := fun _ => fun
  | [d1, d2] => { results := [.lit (.bool true)], args := [d1, d2] }
  | _ => none }
def sendsRow : OpenClaim := { program := "ytfhncfghblkgeaagreat", sum := "1e97a47c04f9482cd1d0a1581f670026080aba0fdeac9da2b665a94747866261", func := "sale/salelaw.Sends", spec := "sends", recurses := true, apart := false }
def SendsSaid : Prop := sendsRow.holds Tryz.pinned (OpenSpec.ofChange sendsSpec)

/-- ITS FALSE NEIGHBOUR: 'it returns false'. Refute it at one input. -/
def sendsWrong : ChangeSpec := { name := "sends", fn := fun _ => fun
  | [d1, d2] => { results := [.lit (.bool false)], args := [d1, d2] }
  | _ => none }
def SendsWrongFalsely : Prop := sendsRow.holds Tryz.pinned (OpenSpec.ofChange sendsWrong)

/-- 'salelaw.Accounts': WHATEVER THE INPUT: true; the input reads as it did. -/
def accountsSpec : ChangeSpec := { name := "accounts", fn := fun _ => fun
  | [d1, d2] => { results := [.lit (.bool true)], args := [d1, d2] }
  | _ => none }
def accountsRow : OpenClaim := { program := "ytfhncfghblkgeaagreat", sum := "1e97a47c04f9482cd1d0a1581f670026080aba0fdeac9da2b665a94747866261", func := "sale/salelaw.Accounts", spec := "accounts", recurses := true, apart := false }
def AccountsSaid : Prop := accountsRow.holds Tryz.pinned (OpenSpec.ofChange accountsSpec)

/-- ITS FALSE NEIGHBOUR: 'it returns false'. Refute it at one input. -/
def accountsWrong : ChangeSpec := { name := "accounts", fn := fun _ => fun
  | [d1, d2] => { results := [.lit (.bool false)], args := [d1, d2] }
  | _ => none }
def AccountsWrongFalsely : Prop := accountsRow.holds Tryz.pinned (OpenSpec.ofChange accountsWrong)

/-- 'salelaw.Ticks': WHATEVER THE INPUT: true; the input reads as it did. -/
def ticksSpec : ChangeSpec := { name := "ticks", fn := fun _ => fun
  | [d1, d2] => { results := [.lit (.bool true)], args := [d1, d2] }
  | _ => none }
def ticksRow : OpenClaim := { program := "ytfhncfghblkgeaagreat", sum := "1e97a47c04f9482cd1d0a1581f670026080aba0fdeac9da2b665a94747866261", func := "sale/salelaw.Ticks", spec := "ticks", recurses := true, apart := false }
def TicksSaid : Prop := ticksRow.holds Tryz.pinned (OpenSpec.ofChange ticksSpec)

/-- ITS FALSE NEIGHBOUR: 'it returns false'. Refute it at one input. -/
def ticksWrong : ChangeSpec := { name := "ticks", fn := fun _ => fun
  | [d1, d2] => { results := [.lit (.bool false)], args := [d1, d2] }
  | _ => none }
def TicksWrongFalsely : Prop := ticksRow.holds Tryz.pinned (OpenSpec.ofChange ticksWrong)

/-- 'salekeep.Sound': WHATEVER THE INPUT: true; the input reads as it did. -/
def soundSpec : ChangeSpec := { name := "sound", fn := fun _ => fun
  | [d] => { results := [.lit (.bool true)], args := [d] }
  | _ => none }
def soundRow : OpenClaim := { program := "ytfhncfghblkgeaagreat", sum := "1e97a47c04f9482cd1d0a1581f670026080aba0fdeac9da2b665a94747866261", func := "sale/salekeep.Sound", spec := "sound", recurses := true, apart := false }
def SoundSaid : Prop := soundRow.holds Tryz.pinned (OpenSpec.ofChange soundSpec)

/-- ITS FALSE NEIGHBOUR: 'it returns false'. Refute it at one input. -/
def soundWrong : ChangeSpec := { name := "sound", fn := fun _ => fun
  | [d] => { results := [.lit (.bool false)], args := [d] }
  | _ => none }
def SoundWrongFalsely : Prop := soundRow.holds Tryz.pinned (OpenSpec.ofChange soundWrong)

/-- 'salekeep.FirstCome': WHATEVER THE INPUT: true; the input reads as it did. -/
def firstComeSpec : ChangeSpec := { name := "firstCome", fn := fun _ => fun
  | [d] => { results := [.lit (.bool true)], args := [d] }
  | _ => none }
def firstComeRow : OpenClaim := { program := "ytfhncfghblkgeaagreat", sum := "1e97a47c04f9482cd1d0a1581f670026080aba0fdeac9da2b665a94747866261", func := "sale/salekeep.FirstCome", spec := "firstCome", recurses := true, apart := false }
def FirstComeSaid : Prop := firstComeRow.holds Tryz.pinned (OpenSpec.ofChange firstComeSpec)

/-- ITS FALSE NEIGHBOUR: 'it returns false'. Refute it at one input. -/
def firstComeWrong : ChangeSpec := { name := "firstCome", fn := fun _ => fun
  | [d] => { results := [.lit (.bool false)], args := [d] }
  | _ => none }
def FirstComeWrongFalsely : Prop := firstComeRow.holds Tryz.pinned (OpenSpec.ofChange firstComeWrong)

/-- 'salekeep.Decided': WHATEVER THE INPUT: true; the input reads as it did. -/
def decidedSpec : ChangeSpec := { name := "decided", fn := fun _ => fun
  | [d] => { results := [.lit (.bool true)], args := [d] }
  | _ => none }
def decidedRow : OpenClaim := { program := "ytfhncfghblkgeaagreat", sum := "1e97a47c04f9482cd1d0a1581f670026080aba0fdeac9da2b665a94747866261", func := "sale/salekeep.Decided", spec := "decided", recurses := true, apart := false }
def DecidedSaid : Prop := decidedRow.holds Tryz.pinned (OpenSpec.ofChange decidedSpec)

/-- ITS FALSE NEIGHBOUR: 'it returns false'. Refute it at one input. -/
def decidedWrong : ChangeSpec := { name := "decided", fn := fun _ => fun
  | [d] => { results := [.lit (.bool false)], args := [d] }
  | _ => none }
def DecidedWrongFalsely : Prop := decidedRow.holds Tryz.pinned (OpenSpec.ofChange decidedWrong)

/- THE SECOND FORM. 'bulk': how many values and letters a reading holds, each counted each time it is reached (what is shared counts as often as it is met; a slice's spare places count too). A statement '..UptoSaid' is the law's where the arguments, and the package variables that the reading takes, are together of bulk at most 1048576: NARROWER than '..Said'. Prove '..Said' where nothing that the law and all that it calls make is longer than what came in: it says more and counts as full. Else prove '..UptoSaid'. A law counts once. -/
mutual
def uptoBulk {H : Type} : DataW H → Nat
  | .lit (.string bytes) => bytes.length + 1
  | .lit _ => 1
  | .nil => 1
  | .ptr d => uptoBulk d + 1
  | .slice elems spare => uptoBulkAll elems + uptoBulkAll spare + 1
  | .agg parts => uptoBulkAll parts + 1
  | .iface _ d => uptoBulk d + 1
  | .map entries => uptoBulkEntries entries + 1
  | .held _ => 1
def uptoBulkAll {H : Type} : List (DataW H) → Nat
  | [] => 0
  | d :: r => uptoBulk d + uptoBulkAll r
def uptoBulkEntries {H : Type} : List (Lit × DataW H) → Nat
  | [] => 0
  | x :: r => uptoBulkEntry x + uptoBulkEntries r
def uptoBulkEntry {H : Type} : Lit × DataW H → Nat
  | (.string bytes, d) => bytes.length + uptoBulk d + 1
  | (_, d) => uptoBulk d + 1
 end
def uptoSmall : (H : Type) → List (DataW H) → Bool := fun _ ds => decide (uptoBulkAll ds ≤ 1048576)
def OpenSpec.upto (s : _root_.Go.ChangeSpec) : _root_.Go.OpenSpec := { _root_.Go.OpenSpec.ofChange s with cond := some uptoSmall }

/-- 'salelaw.Checks', WHERE WHAT IT READS IS OF BULK AT MOST 1048576: true; the input reads as it did. -/
def checksUptoRow : OpenClaim := { program := "ytfhncfghblkgeaagreat", sum := "1e97a47c04f9482cd1d0a1581f670026080aba0fdeac9da2b665a94747866261", func := "sale/salelaw.Checks", spec := "checks", recurses := true, apart := false, narrowed := true }
def ChecksUptoSaid : Prop := checksUptoRow.holds Tryz.pinned (OpenSpec.upto checksSpec)

/-- 'salelaw.Codes', WHERE WHAT IT READS IS OF BULK AT MOST 1048576: true; the input reads as it did. -/
def codesUptoRow : OpenClaim := { program := "ytfhncfghblkgeaagreat", sum := "1e97a47c04f9482cd1d0a1581f670026080aba0fdeac9da2b665a94747866261", func := "sale/salelaw.Codes", spec := "codes", recurses := true, apart := false, narrowed := true }
def CodesUptoSaid : Prop := codesUptoRow.holds Tryz.pinned (OpenSpec.upto codesSpec)

/-- 'salelaw.Wheels', WHERE WHAT IT READS IS OF BULK AT MOST 1048576: true; the input reads as it did. -/
def wheelsUptoRow : OpenClaim := { program := "ytfhncfghblkgeaagreat", sum := "1e97a47c04f9482cd1d0a1581f670026080aba0fdeac9da2b665a94747866261", func := "sale/salelaw.Wheels", spec := "wheels", recurses := true, apart := false, narrowed := true }
def WheelsUptoSaid : Prop := wheelsUptoRow.holds Tryz.pinned (OpenSpec.upto wheelsSpec)

/-- 'salelaw.Sends', WHERE WHAT IT READS IS OF BULK AT MOST 1048576: true; the input reads as it did. -/
def sendsUptoRow : OpenClaim := { program := "ytfhncfghblkgeaagreat", sum := "1e97a47c04f9482cd1d0a1581f670026080aba0fdeac9da2b665a94747866261", func := "sale/salelaw.Sends", spec := "sends", recurses := true, apart := false, narrowed := true }
def SendsUptoSaid : Prop := sendsUptoRow.holds Tryz.pinned (OpenSpec.upto sendsSpec)

/-- 'salelaw.Accounts', WHERE WHAT IT READS IS OF BULK AT MOST 1048576: true; the input reads as it did. -/
def accountsUptoRow : OpenClaim := { program := "ytfhncfghblkgeaagreat", sum := "1e97a47c04f9482cd1d0a1581f670026080aba0fdeac9da2b665a94747866261", func := "sale/salelaw.Accounts", spec := "accounts", recurses := true, apart := false, narrowed := true }
def AccountsUptoSaid : Prop := accountsUptoRow.holds Tryz.pinned (OpenSpec.upto accountsSpec)

/-- 'salelaw.Ticks', WHERE WHAT IT READS IS OF BULK AT MOST 1048576: true; the input reads as it did. -/
def ticksUptoRow : OpenClaim := { program := "ytfhncfghblkgeaagreat", sum := "1e97a47c04f9482cd1d0a1581f670026080aba0fdeac9da2b665a94747866261", func := "sale/salelaw.Ticks", spec := "ticks", recurses := true, apart := false, narrowed := true }
def TicksUptoSaid : Prop := ticksUptoRow.holds Tryz.pinned (OpenSpec.upto ticksSpec)

/-- 'salekeep.Sound', WHERE WHAT IT READS IS OF BULK AT MOST 1048576: true; the input reads as it did. -/
def soundUptoRow : OpenClaim := { program := "ytfhncfghblkgeaagreat", sum := "1e97a47c04f9482cd1d0a1581f670026080aba0fdeac9da2b665a94747866261", func := "sale/salekeep.Sound", spec := "sound", recurses := true, apart := false, narrowed := true }
def SoundUptoSaid : Prop := soundUptoRow.holds Tryz.pinned (OpenSpec.upto soundSpec)

/-- 'salekeep.FirstCome', WHERE WHAT IT READS IS OF BULK AT MOST 1048576: true; the input reads as it did. -/
def firstComeUptoRow : OpenClaim := { program := "ytfhncfghblkgeaagreat", sum := "1e97a47c04f9482cd1d0a1581f670026080aba0fdeac9da2b665a94747866261", func := "sale/salekeep.FirstCome", spec := "firstCome", recurses := true, apart := false, narrowed := true }
def FirstComeUptoSaid : Prop := firstComeUptoRow.holds Tryz.pinned (OpenSpec.upto firstComeSpec)

/-- 'salekeep.Decided', WHERE WHAT IT READS IS OF BULK AT MOST 1048576: true; the input reads as it did. -/
def decidedUptoRow : OpenClaim := { program := "ytfhncfghblkgeaagreat", sum := "1e97a47c04f9482cd1d0a1581f670026080aba0fdeac9da2b665a94747866261", func := "sale/salekeep.Decided", spec := "decided", recurses := true, apart := false, narrowed := true }
def DecidedUptoSaid : Prop := decidedUptoRow.holds Tryz.pinned (OpenSpec.upto decidedSpec)

end Rows
end Go.Proofs.YtfhncfghblkgeaaGreat
