/- Own texts, joined: contracts that the law's proof goes by. -/
import Derived.Test.YtaeibfipcenhaaaGreatDoorGLViewsOk49
import Derived.Handy
import Derived.Deep.AppendLies
import Derived.Lib.SliceRun
import Derived.Test.YtaeibfipcenhaaaGreatDoorGLViewsOk33
import Derived.Test.YtaeibfipcenhaaaGreatDoorGLViewsOk20
import Derived.Deep.RegionHeld3

