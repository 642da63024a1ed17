/- The laws and what they ask of the package, joined; no condition. -/
import Derived.Test.YtgghppojjhnbeaaXk
import Derived.Test.YtgghppojjhnbeaaXq
namespace Go.Proofs.Ytgghppojjhnbeaa
theorem all_here : KOpe ∧ KAns ∧ KExp := ⟨ko, ka, ke⟩
end Go.Proofs.Ytgghppojjhnbeaa
