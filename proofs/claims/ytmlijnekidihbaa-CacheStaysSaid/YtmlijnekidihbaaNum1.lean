/-
  An error as a number, in the statements' own words.
-/
import Derived.Test.YtmlijnekidihbaaBase
import Derived.Test.YtmlijnekidihbaaProg
namespace Go.Proofs.Ytmlijnekidihbaa
open Go.RowKit

end Go.Proofs.Ytmlijnekidihbaa
