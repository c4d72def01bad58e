/- The library's limit, where strings.Contains alone reads it. -/
import Derived.Test.YtpjoljaamakagaaMax12
namespace Go.Proofs.Ytpjoljaamakagaa
open Go.RowKit
theorem maxQ_ofA {W : World} (h : W.ShapedOpen Try.prog) : MaxQ W := Try.laysM144.s1_3 W h
end Go.Proofs.Ytpjoljaamakagaa
