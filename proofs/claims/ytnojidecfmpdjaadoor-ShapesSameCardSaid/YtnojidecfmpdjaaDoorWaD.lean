/- What the walks of Digits import. -/
import Derived.Test.YtnojidecfmpdjaaDoorLay
import Derived.Test.YtnojidecfmpdjaaDoorShelf
import Derived.Deep.Light
