import Derived.Test.YtbfamabkbkpmpaaGreatQWki
import Derived.Deep.DeepCutAuto
import Derived.Test.YtbfamabkbkpmpaaGreatQWkv0
import Derived.Test.YtbfamabkbkpmpaaGreatQWkv1
namespace Go.Proofs.YtbfamabkbkpmpaaGreat
open Go.RowKit

end Go.Proofs.YtbfamabkbkpmpaaGreat

namespace Go.Proofs.YtbfamabkbkpmpaaGreat
open Go.RowKit
end Go.Proofs.YtbfamabkbkpmpaaGreat
