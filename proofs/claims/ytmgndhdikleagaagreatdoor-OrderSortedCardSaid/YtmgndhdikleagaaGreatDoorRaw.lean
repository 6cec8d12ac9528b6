/- Arguments that are raw things (open_raws stands in Slc). -/
import Derived.Test.YtmgndhdikleagaaGreatDoorSlc
