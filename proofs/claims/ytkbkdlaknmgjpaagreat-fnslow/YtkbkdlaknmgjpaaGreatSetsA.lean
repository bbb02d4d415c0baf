/- Contracts of the small functions on sets, of the specification and of the program: gathered. -/
import Derived.Test.YtkbkdlaknmgjpaaGreatSetOkS
import Derived.Test.YtkbkdlaknmgjpaaGreatMB
import Derived.Test.YtkbkdlaknmgjpaaGreatME
import Derived.Test.YtkbkdlaknmgjpaaGreatMF
