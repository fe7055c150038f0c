/- Helper: walks of the laws' own functions on matrices: copies, sizes, comparisons, marks. Conditions: none. -/
import Derived.Test.YtinekdfpgkmbnacRowWalks
import Derived.Test.YtinekdfpgkmbnacMatRows
set_option linter.unusedVariables false
set_option linter.unusedSimpArgs false
namespace Go.Proofs.Ytinekdfpgkmbnac
open Go.RowKit






end Go.Proofs.Ytinekdfpgkmbnac
