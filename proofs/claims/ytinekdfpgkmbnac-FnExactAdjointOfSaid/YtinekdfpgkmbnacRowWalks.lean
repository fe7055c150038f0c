/- Helper: walks of the laws' own functions on slices of 32-bit numbers: copies, comparisons. Conditions: none. -/
import Derived.Test.YtinekdfpgkmbnacSmallWalks
import Derived.Test.YtinekdfpgkmbnacFloatRows
import Derived.Test.YtinekdfpgkmbnacLoose
import Derived.Lib.Hide
set_option linter.unusedVariables false
set_option linter.unusedSimpArgs false
namespace Go.Proofs.Ytinekdfpgkmbnac
open Go.RowKit



end Go.Proofs.Ytinekdfpgkmbnac
