/- Masks, of the program and of the model. -/
import Derived.Test.YtchgnjpbjnkdmaaDoorMaskI
import Derived.Test.YtchgnjpbjnkdmaaDoorMaskS
