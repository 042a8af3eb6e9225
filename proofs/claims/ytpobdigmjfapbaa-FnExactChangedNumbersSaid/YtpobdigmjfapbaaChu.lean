/-
  ChangedNumbers: both contracts beside the words of copies and marks. Conditions: none.
-/
import Derived.Test.YtpobdigmjfapbaaChp
import Derived.Test.YtpobdigmjfapbaaMku
import Derived.Test.YtpobdigmjfapbaaInl
