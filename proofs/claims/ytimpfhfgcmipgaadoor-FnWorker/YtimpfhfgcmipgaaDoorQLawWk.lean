
import Derived.Test.YtimpfhfgcmipgaaDoorQLawVal
import Derived.Test.YtimpfhfgcmipgaaDoorQWki
import Derived.Test.YtimpfhfgcmipgaaDoorQWkv
namespace Go.Proofs.YtimpfhfgcmipgaaDoor
open Go.RowKit

end Go.Proofs.YtimpfhfgcmipgaaDoor
