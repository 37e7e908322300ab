/-
  The code's counter blocks and Crypt: where their contracts lie (cnext_any, cfirst_any, cfirst_no, ccrypt_any, ccrypt_no).
-/
import Derived.Test.YtfgigoheaoanpaaCtrT
import Derived.Test.YtfgigoheaoanpaaCtrW
import Derived.Test.YtfgigoheaoanpaaCtrD
import Derived.Test.YtfgigoheaoanpaaMay
