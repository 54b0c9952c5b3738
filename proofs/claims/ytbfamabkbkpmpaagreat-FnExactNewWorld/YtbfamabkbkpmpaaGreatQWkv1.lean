import Derived.Test.YtbfamabkbkpmpaaGreatQWki
import Derived.Deep.DeepCutAuto
namespace Go.Proofs.YtbfamabkbkpmpaaGreat
open Go.RowKit

end Go.Proofs.YtbfamabkbkpmpaaGreat
