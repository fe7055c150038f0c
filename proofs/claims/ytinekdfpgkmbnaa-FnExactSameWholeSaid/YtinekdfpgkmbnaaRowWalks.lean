/- Helper: walks of the laws' own functions on slices of 32-bit numbers: copies, comparisons. Conditions: none. -/
import Derived.Test.YtinekdfpgkmbnaaSmallWalks
import Derived.Test.YtinekdfpgkmbnaaFloatRows
import Derived.Test.YtinekdfpgkmbnaaLoose
import Derived.Lib.Hide
set_option linter.unusedVariables false
set_option linter.unusedSimpArgs false
namespace Go.Proofs.Ytinekdfpgkmbnaa
open Go.RowKit



end Go.Proofs.Ytinekdfpgkmbnaa
