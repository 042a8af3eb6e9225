/-
  AllNumbers: both contracts beside the words of copies and marks. Conditions: none.
-/
import Derived.Test.YtpobdigmjfapbaaAli
import Derived.Test.YtpobdigmjfapbaaMku
