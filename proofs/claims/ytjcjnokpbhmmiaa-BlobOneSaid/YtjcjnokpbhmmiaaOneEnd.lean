/- The walk and what opens its arguments. -/
import Derived.Test.YtjcjnokpbhmmiaaBlobOneW
import Derived.Test.YtjcjnokpbhmmiaaIntsEnd
