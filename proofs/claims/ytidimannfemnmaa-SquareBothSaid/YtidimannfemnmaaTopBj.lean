/- What an operation does not say counts for nothing. -/
import Derived.Test.YtidimannfemnmaaMgAN
import Derived.Test.YtidimannfemnmaaMgAQ
import Derived.Test.YtidimannfemnmaaMgAK
import Derived.Test.YtidimannfemnmaaMgAH
import Derived.Deep.CutRange
import Derived.Deep.CutBlock
import Derived.Test.YtidimannfemnmaaMgAM
set_option linter.all false
namespace Go.Proofs.Ytidimannfemnmaa.Top
open Go.RowKit
set_option maxRecDepth 20000

theorem bare_bare (o:Ov):bareV (bareV o) = bareV o:=by
  by_cases k1:o.kind = 1
  · simp [bareV,k1]
  · by_cases k2:o.kind = 2
    · simp [bareV,k2]
    · by_cases k3:o.kind = 3
      · simp [bareV,k3]
      · by_cases k4:o.kind = 4
        · cases hg:o.gone <;> simp [bareV,k4,hg]
        · by_cases k5:o.kind = 5
          · simp [bareV,k5]
          · by_cases k6:o.kind = 6
            · simp [bareV,k6]
            · have hk:¬ (1≤o.kind∧o.kind≤6):=by omega
              simp [bareV,hk,k1,k3,k4,k5,k6]
theorem bare_formed (o:Ov):formedV (bareV o) = formedV o:=by
  unfold formedV bareV
  dsimp only
  by_cases k1:o.kind = 1
  · simp [k1]
  · by_cases k2:o.kind = 2
    · simp [k2]
    · by_cases k3:o.kind = 3
      · simp [k3]
      · by_cases k4:o.kind = 4
        · cases hg:o.gone <;> simp [k4]
        · by_cases k5:o.kind = 5
          · simp [k5]
          · by_cases k6:o.kind = 6
            · simp [k6]
            · simp [k1,k2,k3,k4,k5,k6]
end Go.Proofs.Ytidimannfemnmaa.Top

