/- The laws of the order, and the package's own order, side by side; no condition. -/
import Derived.Test.YtblpafmcnhhdpaaHk
import Derived.Test.YtblpafmcnhhdpaaUf
import Derived.Test.YtblpafmcnhhdpaaUh
import Derived.Test.YtblpafmcnhhdpaaUm
