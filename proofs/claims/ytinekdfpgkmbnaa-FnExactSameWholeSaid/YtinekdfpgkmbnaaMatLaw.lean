/- Helper: walks of the laws' own functions on matrices: copies, sizes, comparisons, marks. Conditions: none. -/
import Derived.Test.YtinekdfpgkmbnaaRowWalks
import Derived.Test.YtinekdfpgkmbnaaMatRows
set_option linter.unusedVariables false
set_option linter.unusedSimpArgs false
namespace Go.Proofs.Ytinekdfpgkmbnaa
open Go.RowKit






end Go.Proofs.Ytinekdfpgkmbnaa
