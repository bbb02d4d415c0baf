/- Contracts of WebOk, of the specification and of the program: gathered. -/
import Derived.Test.YtkbkdlaknmgjpaaGreatWebOkS
import Derived.Test.YtkbkdlaknmgjpaaGreatMB
import Derived.Test.YtkbkdlaknmgjpaaGreatSetsA
