/- All that the exact laws of stage 15 call. Condition: none. -/
import Derived.Test.YtkfkfejjhfkobaaBoh
import Derived.Test.YtkfkfejjhfkobaaBo4
