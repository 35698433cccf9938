/-
  THE LAWS OF LAYER 15: AskBack's walk, and what opens the parameters.
-/
import Derived.Test.YtokfgdjkafiicaaLaw15C
import Derived.Test.YtokfgdjkafiicaaAskIn
