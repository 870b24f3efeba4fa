/- Tests of bounds. -/
import Derived.Test.YtbihadelhknlnaaDoorDate
