/-
  NARROWER THAN 'FOR EVERY INPUT', by the rows' own cells (each row's printed sentence says how): TodAll: laid · WideOf: laid · WideBoth: laid · WideAll: laid · WideBack: laid · ClauseMay: laid.
  DERIVED. THE GIVEN ROWS OF THIS SEAT. 6 by the template 'for every input the law returns true; each argument reads behind the call as it read before'; 0 by the template 'total and deterministic' (their statements: YtjpdfbljhbgbcaaDoorTotals.lean).
  GIVEN WITH THE SEED: the statements are not yours to turn. If you find one false, say at which input.
  Laid BY PROGRAM, IN A SANDBOX (cutbox-rows.mjs): the forced cells as the released guide's own fill.sh prints them over the translation c72d75d4d9c7e47e… (all of the seat's roots in one cut). By AI agents, Wed Nov 11 2026. No macro, syntax, notation, axiom, sorry.
-/
import Derived.Test.YtjpdfbljhbgbcaaDoorChecked
import GoSem.Claim
import GoSem.ClaimJoined
import GoSem.ClaimMapViews
import Derived.JoinedTies
import Derived.KernelRfl
namespace Go.Proofs.YtjpdfbljhbgbcaaDoor
/- THE CELL 'sum', in the pinned program and in every row, IS THE sha256 OF THE DUMP (.gsa) THAT YtjpdfbljhbgbcaaDoorProg.lean LOADS. Nothing in Lean hashes anything: it is a label: what it is worth is what the hold of that sum in a sandbox is worth. -/
noncomputable def Tryd.pinned : Pinned := { name := "ytjpdfbljhbgbcaadoor", sum := "c72d75d4d9c7e47e33163b8fdb848f9d6d29929e88537d209f7249068e6fd8ab", checked := Tryd.checked }
namespace Rows
def none {H : Type} : Left H := { results := [], args := [] }

/- WHAT THE LISTED PACKAGE-LEVEL VARIABLES READ AS WHEN THE CALL BEGINS. Each datum BY PROGRAM (the guide's laid-datum.mjs) off the statement by which the dump's own 'gosem.cut.vars' lays the variable. In a bare row this is a premise. The card (YtjpdfbljhbgbcaaDoorCards.lean) ties it to the program's text. -/
def laid_math_bits_deBruijn64tab {H : Type} : DataW H := .agg [.lit (.int .u8 0), .lit (.int .u8 1), .lit (.int .u8 56), .lit (.int .u8 2), .lit (.int .u8 57), .lit (.int .u8 49), .lit (.int .u8 28), .lit (.int .u8 3), .lit (.int .u8 61), .lit (.int .u8 58), .lit (.int .u8 42), .lit (.int .u8 50), .lit (.int .u8 38), .lit (.int .u8 29), .lit (.int .u8 17), .lit (.int .u8 4), .lit (.int .u8 62), .lit (.int .u8 47), .lit (.int .u8 59), .lit (.int .u8 36), .lit (.int .u8 45), .lit (.int .u8 43), .lit (.int .u8 51), .lit (.int .u8 22), .lit (.int .u8 53), .lit (.int .u8 39), .lit (.int .u8 33), .lit (.int .u8 30), .lit (.int .u8 24), .lit (.int .u8 18), .lit (.int .u8 12), .lit (.int .u8 5), .lit (.int .u8 63), .lit (.int .u8 55), .lit (.int .u8 48), .lit (.int .u8 27), .lit (.int .u8 60), .lit (.int .u8 41), .lit (.int .u8 37), .lit (.int .u8 16), .lit (.int .u8 46), .lit (.int .u8 35), .lit (.int .u8 44), .lit (.int .u8 21), .lit (.int .u8 52), .lit (.int .u8 32), .lit (.int .u8 23), .lit (.int .u8 11), .lit (.int .u8 54), .lit (.int .u8 26), .lit (.int .u8 40), .lit (.int .u8 15), .lit (.int .u8 34), .lit (.int .u8 20), .lit (.int .u8 31), .lit (.int .u8 10), .lit (.int .u8 25), .lit (.int .u8 14), .lit (.int .u8 19), .lit (.int .u8 9), .lit (.int .u8 13), .lit (.int .u8 8), .lit (.int .u8 7), .lit (.int .u8 6)]
def laid_feria_unit_names {H : Type} : DataW H := .agg [.lit (.string [83, 69, 67, 79, 78, 68, 76, 89]), .lit (.string [77, 73, 78, 85, 84, 69, 76, 89]), .lit (.string [72, 79, 85, 82, 76, 89]), .lit (.string [68, 65, 73, 76, 89]), .lit (.string [87, 69, 69, 75, 76, 89]), .lit (.string [77, 79, 78, 84, 72, 76, 89]), .lit (.string [89, 69, 65, 82, 76, 89])]

/-- 'ferialaw07.TodAll': WHATEVER THE INPUT: true; the input reads as it did. -/
def todAllSpec : ChangeSpec := { name := "todAll", fn := fun _ => fun
  | [d1, d2] => { results := [.lit (.bool true)], args := [d1, d2] }
  | _ => none }
def todAllRow : OpenClaim := { program := "ytjpdfbljhbgbcaadoor", sum := "c72d75d4d9c7e47e33163b8fdb848f9d6d29929e88537d209f7249068e6fd8ab", func := "feria/ferialaw07.TodAll", spec := "todAll", unfollowed := true, recurses := true, named := ["math/bits.deBruijn64tab"], apart := false, laid := [("math/bits.deBruijn64tab", laid_math_bits_deBruijn64tab)] }
def TodAllSaid : Prop := todAllRow.holds Tryd.pinned (OpenSpec.ofChange todAllSpec)

/-- ITS FALSE NEIGHBOUR: 'it returns false'. Refute it at one input. -/
def todAllWrong : ChangeSpec := { name := "todAll", fn := fun _ => fun
  | [d1, d2] => { results := [.lit (.bool false)], args := [d1, d2] }
  | _ => none }
def TodAllWrongFalsely : Prop := todAllRow.holds Tryd.pinned (OpenSpec.ofChange todAllWrong)

/-- 'ferialaw04.WideOf': WHATEVER THE INPUT: true; the input reads as it did. -/
def wideOfSpec : ChangeSpec := { name := "wideOf", fn := fun _ => fun
  | [d1, d2, d3] => { results := [.lit (.bool true)], args := [d1, d2, d3] }
  | _ => none }
def wideOfRow : OpenClaim := { program := "ytjpdfbljhbgbcaadoor", sum := "c72d75d4d9c7e47e33163b8fdb848f9d6d29929e88537d209f7249068e6fd8ab", func := "feria/ferialaw04.WideOf", spec := "wideOf", named := ["math/bits.deBruijn64tab"], apart := false, laid := [("math/bits.deBruijn64tab", laid_math_bits_deBruijn64tab)] }
def WideOfSaid : Prop := wideOfRow.holds Tryd.pinned (OpenSpec.ofChange wideOfSpec)

/-- ITS FALSE NEIGHBOUR: 'it returns false'. Refute it at one input. -/
def wideOfWrong : ChangeSpec := { name := "wideOf", fn := fun _ => fun
  | [d1, d2, d3] => { results := [.lit (.bool false)], args := [d1, d2, d3] }
  | _ => none }
def WideOfWrongFalsely : Prop := wideOfRow.holds Tryd.pinned (OpenSpec.ofChange wideOfWrong)

/-- 'ferialaw04.WideBoth': WHATEVER THE INPUT: true; the input reads as it did. -/
def wideBothSpec : ChangeSpec := { name := "wideBoth", fn := fun _ => fun
  | [d] => { results := [.lit (.bool true)], args := [d] }
  | _ => none }
def wideBothRow : OpenClaim := { program := "ytjpdfbljhbgbcaadoor", sum := "c72d75d4d9c7e47e33163b8fdb848f9d6d29929e88537d209f7249068e6fd8ab", func := "feria/ferialaw04.WideBoth", spec := "wideBoth", named := ["math/bits.deBruijn64tab"], apart := false, laid := [("math/bits.deBruijn64tab", laid_math_bits_deBruijn64tab)] }
def WideBothSaid : Prop := wideBothRow.holds Tryd.pinned (OpenSpec.ofChange wideBothSpec)

/-- ITS FALSE NEIGHBOUR: 'it returns false'. Refute it at one input. -/
def wideBothWrong : ChangeSpec := { name := "wideBoth", fn := fun _ => fun
  | [d] => { results := [.lit (.bool false)], args := [d] }
  | _ => none }
def WideBothWrongFalsely : Prop := wideBothRow.holds Tryd.pinned (OpenSpec.ofChange wideBothWrong)

/-- 'ferialaw04.WideAll': WHATEVER THE INPUT: true; the input reads as it did. -/
def wideAllSpec : ChangeSpec := { name := "wideAll", fn := fun _ => fun
  | [d1, d2] => { results := [.lit (.bool true)], args := [d1, d2] }
  | _ => none }
def wideAllRow : OpenClaim := { program := "ytjpdfbljhbgbcaadoor", sum := "c72d75d4d9c7e47e33163b8fdb848f9d6d29929e88537d209f7249068e6fd8ab", func := "feria/ferialaw04.WideAll", spec := "wideAll", unfollowed := true, recurses := true, named := ["math/bits.deBruijn64tab"], apart := false, laid := [("math/bits.deBruijn64tab", laid_math_bits_deBruijn64tab)] }
def WideAllSaid : Prop := wideAllRow.holds Tryd.pinned (OpenSpec.ofChange wideAllSpec)

/-- ITS FALSE NEIGHBOUR: 'it returns false'. Refute it at one input. -/
def wideAllWrong : ChangeSpec := { name := "wideAll", fn := fun _ => fun
  | [d1, d2] => { results := [.lit (.bool false)], args := [d1, d2] }
  | _ => none }
def WideAllWrongFalsely : Prop := wideAllRow.holds Tryd.pinned (OpenSpec.ofChange wideAllWrong)

/-- 'ferialaw04.WideBack': WHATEVER THE INPUT: true; the input reads as it did. -/
def wideBackSpec : ChangeSpec := { name := "wideBack", fn := fun _ => fun
  | [d] => { results := [.lit (.bool true)], args := [d] }
  | _ => none }
def wideBackRow : OpenClaim := { program := "ytjpdfbljhbgbcaadoor", sum := "c72d75d4d9c7e47e33163b8fdb848f9d6d29929e88537d209f7249068e6fd8ab", func := "feria/ferialaw04.WideBack", spec := "wideBack", unfollowed := true, recurses := true, named := ["math/bits.deBruijn64tab"], apart := false, laid := [("math/bits.deBruijn64tab", laid_math_bits_deBruijn64tab)] }
def WideBackSaid : Prop := wideBackRow.holds Tryd.pinned (OpenSpec.ofChange wideBackSpec)

/-- ITS FALSE NEIGHBOUR: 'it returns false'. Refute it at one input. -/
def wideBackWrong : ChangeSpec := { name := "wideBack", fn := fun _ => fun
  | [d] => { results := [.lit (.bool false)], args := [d] }
  | _ => none }
def WideBackWrongFalsely : Prop := wideBackRow.holds Tryd.pinned (OpenSpec.ofChange wideBackWrong)

/-- 'ferialaw13.ClauseMay': WHATEVER THE INPUT: true; the input reads as it did. -/
def clauseMaySpec : ChangeSpec := { name := "clauseMay", fn := fun _ => fun
  | [d] => { results := [.lit (.bool true)], args := [d] }
  | _ => none }
def clauseMayRow : OpenClaim := { program := "ytjpdfbljhbgbcaadoor", sum := "c72d75d4d9c7e47e33163b8fdb848f9d6d29929e88537d209f7249068e6fd8ab", func := "feria/ferialaw13.ClauseMay", spec := "clauseMay", unfollowed := true, recurses := true, named := ["feria/unit.names"], apart := false, laid := [("feria/unit.names", laid_feria_unit_names)] }
def ClauseMaySaid : Prop := clauseMayRow.holds Tryd.pinned (OpenSpec.ofChange clauseMaySpec)

/-- ITS FALSE NEIGHBOUR: 'it returns false'. Refute it at one input. -/
def clauseMayWrong : ChangeSpec := { name := "clauseMay", fn := fun _ => fun
  | [d] => { results := [.lit (.bool false)], args := [d] }
  | _ => none }
def ClauseMayWrongFalsely : Prop := clauseMayRow.holds Tryd.pinned (OpenSpec.ofChange clauseMayWrong)

/- THE SECOND FORM. 'bulk': how many values and letters a reading holds, each counted each time it is reached (what is shared counts as often as it is met; a slice's spare places count too). A statement '..UptoSaid' is the law's where the arguments, and the package variables that the reading takes, are together of bulk at most 1048576: NARROWER than '..Said'. Prove '..Said' where nothing that the law and all that it calls make is longer than what came in: it says more and counts as full. Else prove '..UptoSaid'. A law counts once. -/
mutual
def uptoBulk {H : Type} : DataW H → Nat
  | .lit (.string bytes) => bytes.length + 1
  | .lit _ => 1
  | .nil => 1
  | .ptr d => uptoBulk d + 1
  | .slice elems spare => uptoBulkAll elems + uptoBulkAll spare + 1
  | .agg parts => uptoBulkAll parts + 1
  | .iface _ d => uptoBulk d + 1
  | .map entries => uptoBulkEntries entries + 1
  | .held _ => 1
def uptoBulkAll {H : Type} : List (DataW H) → Nat
  | [] => 0
  | d :: r => uptoBulk d + uptoBulkAll r
def uptoBulkEntries {H : Type} : List (Lit × DataW H) → Nat
  | [] => 0
  | x :: r => uptoBulkEntry x + uptoBulkEntries r
def uptoBulkEntry {H : Type} : Lit × DataW H → Nat
  | (.string bytes, d) => bytes.length + uptoBulk d + 1
  | (_, d) => uptoBulk d + 1
 end
def uptoSmall : (H : Type) → List (DataW H) → Bool := fun _ ds => decide (uptoBulkAll ds ≤ 1048576)
def OpenSpec.upto (s : _root_.Go.ChangeSpec) : _root_.Go.OpenSpec := { _root_.Go.OpenSpec.ofChange s with cond := some uptoSmall }

/-- 'ferialaw07.TodAll', WHERE WHAT IT READS IS OF BULK AT MOST 1048576: true; the input reads as it did. -/
def todAllUptoRow : OpenClaim := { program := "ytjpdfbljhbgbcaadoor", sum := "c72d75d4d9c7e47e33163b8fdb848f9d6d29929e88537d209f7249068e6fd8ab", func := "feria/ferialaw07.TodAll", spec := "todAll", unfollowed := true, recurses := true, named := ["math/bits.deBruijn64tab"], apart := false, laid := [("math/bits.deBruijn64tab", laid_math_bits_deBruijn64tab)], narrowed := true }
def TodAllUptoSaid : Prop := todAllUptoRow.holds Tryd.pinned (OpenSpec.upto todAllSpec)

/-- 'ferialaw04.WideOf', WHERE WHAT IT READS IS OF BULK AT MOST 1048576: true; the input reads as it did. -/
def wideOfUptoRow : OpenClaim := { program := "ytjpdfbljhbgbcaadoor", sum := "c72d75d4d9c7e47e33163b8fdb848f9d6d29929e88537d209f7249068e6fd8ab", func := "feria/ferialaw04.WideOf", spec := "wideOf", named := ["math/bits.deBruijn64tab"], apart := false, laid := [("math/bits.deBruijn64tab", laid_math_bits_deBruijn64tab)], narrowed := true }
def WideOfUptoSaid : Prop := wideOfUptoRow.holds Tryd.pinned (OpenSpec.upto wideOfSpec)

/-- 'ferialaw04.WideBoth', WHERE WHAT IT READS IS OF BULK AT MOST 1048576: true; the input reads as it did. -/
def wideBothUptoRow : OpenClaim := { program := "ytjpdfbljhbgbcaadoor", sum := "c72d75d4d9c7e47e33163b8fdb848f9d6d29929e88537d209f7249068e6fd8ab", func := "feria/ferialaw04.WideBoth", spec := "wideBoth", named := ["math/bits.deBruijn64tab"], apart := false, laid := [("math/bits.deBruijn64tab", laid_math_bits_deBruijn64tab)], narrowed := true }
def WideBothUptoSaid : Prop := wideBothUptoRow.holds Tryd.pinned (OpenSpec.upto wideBothSpec)

/-- 'ferialaw04.WideAll', WHERE WHAT IT READS IS OF BULK AT MOST 1048576: true; the input reads as it did. -/
def wideAllUptoRow : OpenClaim := { program := "ytjpdfbljhbgbcaadoor", sum := "c72d75d4d9c7e47e33163b8fdb848f9d6d29929e88537d209f7249068e6fd8ab", func := "feria/ferialaw04.WideAll", spec := "wideAll", unfollowed := true, recurses := true, named := ["math/bits.deBruijn64tab"], apart := false, laid := [("math/bits.deBruijn64tab", laid_math_bits_deBruijn64tab)], narrowed := true }
def WideAllUptoSaid : Prop := wideAllUptoRow.holds Tryd.pinned (OpenSpec.upto wideAllSpec)

/-- 'ferialaw04.WideBack', WHERE WHAT IT READS IS OF BULK AT MOST 1048576: true; the input reads as it did. -/
def wideBackUptoRow : OpenClaim := { program := "ytjpdfbljhbgbcaadoor", sum := "c72d75d4d9c7e47e33163b8fdb848f9d6d29929e88537d209f7249068e6fd8ab", func := "feria/ferialaw04.WideBack", spec := "wideBack", unfollowed := true, recurses := true, named := ["math/bits.deBruijn64tab"], apart := false, laid := [("math/bits.deBruijn64tab", laid_math_bits_deBruijn64tab)], narrowed := true }
def WideBackUptoSaid : Prop := wideBackUptoRow.holds Tryd.pinned (OpenSpec.upto wideBackSpec)

/-- 'ferialaw13.ClauseMay', WHERE WHAT IT READS IS OF BULK AT MOST 1048576: true; the input reads as it did. -/
def clauseMayUptoRow : OpenClaim := { program := "ytjpdfbljhbgbcaadoor", sum := "c72d75d4d9c7e47e33163b8fdb848f9d6d29929e88537d209f7249068e6fd8ab", func := "feria/ferialaw13.ClauseMay", spec := "clauseMay", unfollowed := true, recurses := true, named := ["feria/unit.names"], apart := false, laid := [("feria/unit.names", laid_feria_unit_names)], narrowed := true }
def ClauseMayUptoSaid : Prop := clauseMayUptoRow.holds Tryd.pinned (OpenSpec.upto clauseMaySpec)

end Rows
end Go.Proofs.YtjpdfbljhbgbcaaDoor
