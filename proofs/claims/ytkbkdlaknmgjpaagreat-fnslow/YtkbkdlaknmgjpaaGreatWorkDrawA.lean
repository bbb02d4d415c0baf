/- Works while they are drawn (AppX), with what is drawn of deeds. -/
import Derived.Test.YtkbkdlaknmgjpaaGreatMG
import Derived.Test.YtkbkdlaknmgjpaaGreatDeedDraw
