/- Contracts of the law's own helpers on lists of numbers, gathered. -/
import Derived.Test.YtkbkdlaknmgjpaaSlicesA
import Derived.Test.YtkbkdlaknmgjpaaSliceTo
namespace Go.Proofs.Ytkbkdlaknmgjpaa


end Go.Proofs.Ytkbkdlaknmgjpaa
