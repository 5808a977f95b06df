/- The words of this seat's proofs, under their elder name. No condition. -/
import Derived.Test.YthechpbihfmkoaaWKit
namespace Go.Proofs.Ythechpbihfmkoaa
end Go.Proofs.Ythechpbihfmkoaa
