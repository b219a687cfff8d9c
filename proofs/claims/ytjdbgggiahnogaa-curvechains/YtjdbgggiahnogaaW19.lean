/- What Square of package field does. -/
import Derived.Test.YtjdbgggiahnogaaW18
namespace Go.Proofs.Ytjdbgggiahnogaa
open Go.RowKit Go.Proofs.Fd

end Go.Proofs.Ytjdbgggiahnogaa
