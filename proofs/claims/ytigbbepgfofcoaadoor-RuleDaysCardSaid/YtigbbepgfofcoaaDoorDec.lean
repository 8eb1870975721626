/- Tests that are decided; nothing of the program is spoken of. -/
import Derived.Test.YtigbbepgfofcoaaDoorKit
namespace Go.Proofs.YtigbbepgfofcoaaDoor
theorem dec_t {p : Prop} [Decidable p] (h : p) : decide p = true := decide_eq_true h
theorem dec_n {p : Prop} [Decidable p] (h : ¬ p) : decide p = false := decide_eq_false h
end Go.Proofs.YtigbbepgfofcoaaDoor
