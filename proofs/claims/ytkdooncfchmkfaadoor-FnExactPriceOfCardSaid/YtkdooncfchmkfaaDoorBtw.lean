/- Tests of bounds. -/
import Derived.Test.YtkdooncfchmkfaaDoorDate
