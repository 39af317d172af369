/- The walk and what opens its arguments. -/
import Derived.Test.YtjcjnokpbhmmiaaBlobReadsW
import Derived.Test.YtjcjnokpbhmmiaaBlobEnd
