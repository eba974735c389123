/- What stage 24's exact laws import. No statement of its own but two contracts in the form of a post. Condition: none. -/
import Derived.Test.YtalfihfielgmpaaBe3
import Derived.Test.YtalfihfielgmpaaBe4
namespace Go.Proofs.Ytalfihfielgmpaa.be
open Go.RowKit sl harn rng bx stw bcm
set_option linter.unusedVariables false
theorem implNbB (x : Int) (w : World) : Calls Try.prog 34 #[.int .i64 x] w (NPost (nbs x) w) := (implNb x _ w rfl).mono fun e w' h => ⟨h.1, h.2 ▸ Below.refl _ _⟩
theorem specNbB (x : Int) (w : World) : Calls Try.prog 33 #[.int .i64 x] w (NPost (nbs x) w) := (specNb x _ w rfl).mono fun e w' h => ⟨h.1, h.2 ▸ Below.refl _ _⟩
theorem implDcB (x y : Int) (w : World) : Calls Try.prog 36 #[.int .i64 x, .int .i64 y] w (NPost (dca x y) w) := (implDc x y _ w rfl).mono fun e w' h => ⟨h.1, h.2 ▸ Below.refl _ _⟩
theorem specDcB (x y : Int) (w : World) : Calls Try.prog 35 #[.int .i64 x, .int .i64 y] w (NPost (dca x y) w) := (specDc x y _ w rfl).mono fun e w' h => ⟨h.1, h.2 ▸ Below.refl _ _⟩
end Go.Proofs.Ytalfihfielgmpaa.be
