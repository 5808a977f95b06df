/- The words of this seat's proofs, under their elder name. No condition. -/
import Derived.Test.YtejcclcckgdbgaaGa
namespace Go.Proofs.Ytejcclcckgdbgaa
end Go.Proofs.Ytejcclcckgdbgaa
