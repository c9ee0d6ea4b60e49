/- Words on numbers, and numbers that are handed back. -/
import Derived.Test.YtabdinmodopadabGiv3
import Derived.Test.YtabdinmodopadabSnQ
