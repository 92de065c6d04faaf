/-
  The walks of package crc: a text's bytes; the reference's sum, bit by bit.
-/
import Derived.Test.YtbnkaeigabifhaaDoorCrcSmall
namespace Go.Proofs.YtbnkaeigabifhaaDoor
open Go.RowKit
set_option linter.unusedVariables false
set_option linter.unusedSimpArgs false
namespace CrcW
open BytesW CrcP CrcM
end CrcW
end Go.Proofs.YtbnkaeigabifhaaDoor
