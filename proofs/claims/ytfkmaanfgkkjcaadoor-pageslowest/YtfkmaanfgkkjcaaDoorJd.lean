/- PagesLowest, PagesGiven: what they stand on -/
import Derived.Test.YtfkmaanfgkkjcaaDoorJy
import Derived.Test.YtfkmaanfgkkjcaaDoorJc
