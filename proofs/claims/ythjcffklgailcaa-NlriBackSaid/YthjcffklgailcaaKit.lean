/- The words of this seat's proofs, under their elder name. No condition. -/
import Derived.Test.YthjcffklgailcaaWKit
namespace Go.Proofs.Ythjcffklgailcaa
end Go.Proofs.Ythjcffklgailcaa
