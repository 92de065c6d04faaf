/-
  What is asked of a reader of the reference.
-/
import Derived.Test.YtjmdjdkpcmekmaaBytesNext
import Derived.Test.YtjmdjdkpcmekmaaBytesFirst
namespace Go.Proofs.Ytjmdjdkpcmekmaa
open Go.RowKit
open Go.Lib (uvarint uvarint_small uvarint_big uvarint_length64 uvarint_pos zigzag)
set_option linter.unusedVariables false
set_option linter.unusedSimpArgs false
namespace BytesW

end BytesW
end Go.Proofs.Ytjmdjdkpcmekmaa
