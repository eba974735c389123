/- What the walks of stage 11 hand to the exact laws. Condition: none. -/
import Derived.Test.YtmhfcjdjkpoheaaAir3
