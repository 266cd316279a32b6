/-
  What the document's Rising does, for every list of entries.
-/
import Derived.Test.YteeikmpfgbfeoaaKeyGood
import Derived.Test.YteeikmpfgbfeoaaKeyRefCmp
import Derived.Test.YteeikmpfgbfeoaaRegion
namespace Go.Proofs.Yteeikmpfgbfeoaa
open Go.RowKit

end Go.Proofs.Yteeikmpfgbfeoaa
