/- The contracts of layer 8's code in one place (HmK, HmK2, HmK3: turned to the landed code's operations, if they differ). -/
import Derived.Test.YtllodapnbdbpeaaHmK3
import Derived.Test.YtllodapnbdbpeaaHmR
import Derived.Test.YtllodapnbdbpeaaSame
