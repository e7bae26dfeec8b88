/- PagesGiven: what it stands on -/
import Derived.Test.YtfkmaanfgkkjcaaDoorJy
import Derived.Test.YtfkmaanfgkkjcaaDoorJf
import Derived.Test.YtfkmaanfgkkjcaaDoorJg
