/- Contract of the specification's TaleOk, with those of sources and rows. -/
import Derived.Test.YtgolhjmbloiakaaTaleOkS
import Derived.Test.YtgolhjmbloiakaaSrcA
import Derived.Test.YtgolhjmbloiakaaRowsA
import Derived.Test.YtgolhjmbloiakaaMD
