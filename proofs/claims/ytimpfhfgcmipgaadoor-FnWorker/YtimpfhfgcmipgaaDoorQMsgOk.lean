
import Derived.Test.YtimpfhfgcmipgaaDoorQCel
namespace Go.Proofs.YtimpfhfgcmipgaaDoor
open Go.RowKit

end Go.Proofs.YtimpfhfgcmipgaaDoor
