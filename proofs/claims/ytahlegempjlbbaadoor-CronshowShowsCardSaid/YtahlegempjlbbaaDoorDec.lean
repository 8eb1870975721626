/- Tests that are decided; nothing of the program is spoken of. -/
import Derived.Test.YtahlegempjlbbaaDoorKit
namespace Go.Proofs.YtahlegempjlbbaaDoor
theorem dec_t {p : Prop} [Decidable p] (h : p) : decide p = true := decide_eq_true h
theorem dec_n {p : Prop} [Decidable p] (h : ¬ p) : decide p = false := decide_eq_false h
end Go.Proofs.YtahlegempjlbbaaDoor
