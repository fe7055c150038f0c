/- Helper: walks of the laws' own functions on matrices: copies, comparisons, marks. Conditions: none. -/
import Derived.Test.YtinekdfpgkmbnacMatLaw
import Derived.Handy
set_option linter.unusedVariables false
set_option linter.unusedSimpArgs false
namespace Go.Proofs.Ytinekdfpgkmbnac
open Go.RowKit



end Go.Proofs.Ytinekdfpgkmbnac
