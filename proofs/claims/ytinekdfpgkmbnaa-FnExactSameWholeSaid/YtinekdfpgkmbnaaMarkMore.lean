/- Helper: marks on a list of numbers that begin far on. Conditions: none. -/
import Derived.Test.YtinekdfpgkmbnaaMatCopy
set_option linter.unusedVariables false
set_option linter.unusedSimpArgs false
namespace Go.Proofs.Ytinekdfpgkmbnaa
open Go.RowKit

end Go.Proofs.Ytinekdfpgkmbnaa
