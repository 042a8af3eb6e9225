/-
  NumbersBytes: both contracts beside the words of copies. Conditions: none.
-/
import Derived.Test.YtpobdigmjfapbaaDoorNby
import Derived.Test.YtpobdigmjfapbaaDoorMark
