/- No library function that wants a contract (empty). -/
import Derived.Test.YtnoaljfdbfbhmaaProg
