/- Imports alone: a dump without Block of layer 7's code. -/
import Derived.Test.YtllodapnbdbpeaaShaD
import Derived.Test.YtllodapnbdbpeaaShaF
