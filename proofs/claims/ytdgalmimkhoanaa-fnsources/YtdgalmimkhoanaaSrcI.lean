/- Contracts of the program's four functions on sources, together. -/
import Derived.Test.YtdgalmimkhoanaaAtI
import Derived.Test.YtdgalmimkhoanaaFromI
namespace Go.Proofs.Ytdgalmimkhoanaa
end Go.Proofs.Ytdgalmimkhoanaa
