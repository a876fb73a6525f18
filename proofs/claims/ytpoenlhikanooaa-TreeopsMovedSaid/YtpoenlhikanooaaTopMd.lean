/- What the law of moved nodes leans on, in one place. -/
import Derived.Test.YtpoenlhikanooaaMgAL
import Derived.Test.YtpoenlhikanooaaTopLi
import Derived.Test.YtpoenlhikanooaaTopS
import Derived.Deep.CutBlock
set_option linter.all false
namespace Go.Proofs.Ytpoenlhikanooaa.Top
open Go.RowKit
set_option maxRecDepth 20000
set_option linter.unusedVariables false

theorem valid_zero {t : Nd} {o : Ov} (h : validV t o = 0) : rightV ltB t = true ∧ faultV t o = 0 := by
  unfold validV at h
  split at h
  · exact ⟨by assumption, h⟩
  · cases h
end Go.Proofs.Ytpoenlhikanooaa.Top

