import Derived.Test.YtlhpnhjfibkgpabWpJ2
namespace Go.Proofs.Ytlhpnhjfibkgpab
namespace Wp
open Go.RowKit
set_option linter.unusedVariables false
set_option maxRecDepth 8000
end Wp
end Go.Proofs.Ytlhpnhjfibkgpab
