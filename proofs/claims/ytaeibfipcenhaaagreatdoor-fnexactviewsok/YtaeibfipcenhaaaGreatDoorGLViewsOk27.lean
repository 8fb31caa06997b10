/- Own texts, joined: contracts that the law's proof goes by. -/
import Derived.Test.YtaeibfipcenhaaaGreatDoorGLViewsOk26
import Derived.Test.YtaeibfipcenhaaaGreatDoorGLViewsOk16

