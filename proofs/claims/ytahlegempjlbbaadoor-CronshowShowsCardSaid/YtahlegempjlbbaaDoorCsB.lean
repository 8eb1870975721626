/- The text of an item: cronshow.Item and the document's own (layer 26). -/
import Derived.Test.YtahlegempjlbbaaDoorCsA
import Derived.Test.YtahlegempjlbbaaDoorCsQ
import Derived.Test.YtahlegempjlbbaaDoorShelf
import Derived.Lib.AppendIntMem
import Derived.Deep.QuietTactic
namespace Go.Proofs.YtahlegempjlbbaaDoor
open Go.RowKit
set_option linter.unusedVariables false

/-- the table of the powers of ten -/
def TabP (w : World) : Prop := Lib.TabIs Tryd.prog w "internal/strconv.uint64pow10" .u64 Lib.pow10Tab
theorem TabP.bel {w w' : World} (h : TabP w) (hb : Below w.heap.size w w') : TabP w' := Joins.tab_stays (g := 1) (by kernel_rfl) h hb (Nat.le_refl _)
theorem itoa_any (n : Int) (hn : I64 n) (w : World) (hT : TabP w) : Calls Tryd.prog 18 #[.int .i64 n] w fun e w' => e = .returned (.string (tx n)) ∧ Below w.heap.size w w' :=
  (Tryd.strconv_Itoa n hn.1 hn.2 w hT).mono fun e w' ⟨h, k, os, hw⟩ => ⟨h, by rw [hw]; exact Lib.below_grow _ w (Nat.le_refl _) k os⟩
theorem number_any (n : Int) (hn : I64 n) (w : World) : Calls Tryd.prog 31 #[.int .i64 n] w fun e w' => e = .returned (.string (tx n)) ∧ Below w.heap.size w w' := number_all n.natAbs n w (Nat.le_refl _) hn
def chr (b : UInt8) : ByteArray := ⟨#[b]⟩
/-- a text and the step behind it -/
def stT (s : Int) (t : ByteArray) : ByteArray := if s = 1 then t else t ++ (chr 47 ++ tx s)
/-- an item's text -/
def itT (q : Q4) : ByteArray := if q.1 = 1 then tx q.2.1 else if q.1 = 0 then stT q.2.2.2 (chr 42) else if q.1 = 2 then stT q.2.2.2 (tx q.2.1 ++ chr 45 ++ tx q.2.2.1) else ⟨#[]⟩
theorem size_app (a b : ByteArray) : (a ++ b).size = a.size + b.size := ByteArray.size_append
theorem txz (n : Int) (h : I64 n) : (tx n).size ≤ 21 := tx_size n h.1 h.2
theorem itT_size (q : Q4) (h : Q4In q) : (itT q).size ≤ 70 := by
  have h1 := txz q.2.1 h.2.1
  have h2 := txz q.2.2.1 h.2.2.1
  have h3 := txz q.2.2.2 h.2.2.2
  have c1 : ∀ b, (chr b).size = 1 := fun b => rfl
  unfold itT
  split
  · omega
  · split
    · unfold stT
      split
      · rw [c1]; omega
      · rw [size_app, size_app, c1, c1]; omega
    · split
      · unfold stT
        split
        · rw [size_app, size_app, c1]; omega
        · rw [size_app, size_app, size_app, size_app, c1, c1]; omega
      · show (0 : Nat) ≤ 70; omega
end Go.Proofs.YtahlegempjlbbaaDoor
