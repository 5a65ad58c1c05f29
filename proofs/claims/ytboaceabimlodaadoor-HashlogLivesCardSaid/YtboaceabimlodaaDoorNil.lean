/-
  Contracts of the functions that the statements of package sha go through: Write to a hash that is nil, or that no call made. Condition: none.
-/
import Derived.Test.YtboaceabimlodaaDoorNew
namespace Go.Proofs.YtboaceabimlodaaDoor
open Go.RowKit
end Go.Proofs.YtboaceabimlodaaDoor
