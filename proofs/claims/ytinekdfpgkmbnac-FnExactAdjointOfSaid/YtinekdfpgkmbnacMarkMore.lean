/- Helper: marks on a list of numbers that begin far on. Conditions: none. -/
import Derived.Test.YtinekdfpgkmbnacMatCopy
set_option linter.unusedVariables false
set_option linter.unusedSimpArgs false
namespace Go.Proofs.Ytinekdfpgkmbnac
open Go.RowKit

end Go.Proofs.Ytinekdfpgkmbnac
