/- Contracts of the program's RowsOk, RowsCount, RowsAt, RowWeb: gathered. -/
import Derived.Test.YtkdebpfdiblliaaMB
import Derived.Test.YtkdebpfdiblliaaMC
import Derived.Test.YtkdebpfdiblliaaRwebI
