/-
  THE LAWS OF LAYER 15: AskPrints' walk, and what opens the parameters.
-/
import Derived.Test.YtokfgdjkafiicaaLaw15A
import Derived.Test.YtokfgdjkafiicaaAskIn
