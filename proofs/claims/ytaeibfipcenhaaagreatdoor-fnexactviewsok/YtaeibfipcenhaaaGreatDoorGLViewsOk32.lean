/- Own texts, joined: contracts that the law's proof goes by. -/
import Derived.Test.YtaeibfipcenhaaaGreatDoorGLViewsOk4
import Derived.Test.YtaeibfipcenhaaaGreatDoorGLViewsOk17
import Derived.Test.YtaeibfipcenhaaaGreatDoorGLViewsOk3
import Derived.Test.YtaeibfipcenhaaaGreatDoorGLViewsOk20
import Derived.Test.YtaeibfipcenhaaaGreatDoorGLViewsOk13
import Derived.Handy
import Derived.Deep.RegionHeld3
import Derived.Deep.QuietTactic
import Derived.BigQuiet

