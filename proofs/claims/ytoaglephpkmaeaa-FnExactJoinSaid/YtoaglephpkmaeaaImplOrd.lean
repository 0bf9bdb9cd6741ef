/-
  Chapter 3 of the program: all three.
-/
import Derived.Test.YtoaglephpkmaeaaImplJoin
import Derived.Test.YtoaglephpkmaeaaImplMeet
