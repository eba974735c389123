/- What the exact laws of stage 14 take of the contracts: everything under one import. Condition: none. -/
import Derived.Test.YthgobaohlcninaaAch
