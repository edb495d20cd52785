/- The contracts of layer 3's code, all of them. -/
import Derived.Test.YtcbolbdfdapidaaDoorCborL
import Derived.Test.YtcbolbdfdapidaaDoorCborF
import Derived.Test.YtcbolbdfdapidaaDoorKEnc
import Derived.Test.YtcbolbdfdapidaaDoorKDec2
import Derived.Test.YtcbolbdfdapidaaDoorKArr
