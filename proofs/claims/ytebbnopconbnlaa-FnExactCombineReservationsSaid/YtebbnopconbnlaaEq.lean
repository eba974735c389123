/- Nothing of its own: the seat lacks what the text of this name speaks of elsewhere. Condition: none. -/
import Derived.Test.YtebbnopconbnlaaHarn
