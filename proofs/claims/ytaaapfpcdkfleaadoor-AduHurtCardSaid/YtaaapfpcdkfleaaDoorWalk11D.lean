/-
  AduHurt's walk, and what opens its parameters.
-/
import Derived.Test.YtaaapfpcdkfleaaDoorLaw11D
import Derived.Test.YtaaapfpcdkfleaaDoorOpen11
