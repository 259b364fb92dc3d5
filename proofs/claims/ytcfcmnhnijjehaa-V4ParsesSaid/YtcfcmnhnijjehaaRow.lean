/-
  What the statements of layers 1 and 2 share on arguments that came in. Conditions: none.
-/
import Derived.Test.YtcfcmnhnijjehaaBeE
import Derived.Test.YtcfcmnhnijjehaaOpen
