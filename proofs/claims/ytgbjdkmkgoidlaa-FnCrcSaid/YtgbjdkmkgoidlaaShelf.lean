/- No contract of the library is wanted at this seat. -/
import Derived.Test.YtgbjdkmkgoidlaaProg
