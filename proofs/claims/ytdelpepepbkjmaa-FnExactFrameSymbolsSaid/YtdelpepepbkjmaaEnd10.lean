/- What the laws of stage 10 take of the contracts: everything under one import. Condition: none. -/
import Derived.Test.YtdelpepepbkjmaaPh4
import Derived.Test.YtdelpepepbkjmaaPh5
