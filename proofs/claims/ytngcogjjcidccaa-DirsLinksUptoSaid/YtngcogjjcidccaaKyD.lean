/- The document's own answers about keys. -/
import Derived.Test.YtngcogjjcidccaaKyC
namespace Go.Proofs.Ytngcogjjcidccaa.Ino
set_option linter.unusedVariables false
set_option linter.unusedSimpArgs false
open Go.ChangeShapes Go.WideShapes Go.ChangeAt Go.RowKit
open BigFrame
open Rg
open Pk (be num be_length num_be num_lt bs bs_size nB nE tN tR tE xB_size)
open Ph (has tl tl_len nb)
end Go.Proofs.Ytngcogjjcidccaa.Ino
