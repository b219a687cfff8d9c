/- What Square of package field does. -/
import Derived.Test.YtdebfelgaiofeaaW18
namespace Go.Proofs.Ytdebfelgaiofeaa
open Go.RowKit Go.Proofs.Fd

end Go.Proofs.Ytdebfelgaiofeaa
