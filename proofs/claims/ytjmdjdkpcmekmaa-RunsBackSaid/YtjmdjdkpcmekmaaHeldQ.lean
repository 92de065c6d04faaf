/-
  The world at hand gets a name, behind a region.
-/
import Derived.Test.YtjmdjdkpcmekmaaHeldP
namespace Go.Proofs.Ytjmdjdkpcmekmaa
open Go.RowKit
namespace HeldP
theorem then_named {K : Act → World → Prop} {Q : Exit → Act → World → Prop} {a : Act} {W : World} (S : World → Prop) (h : S W) (k : ∀ W', S W' → Exit.then K Q .normal a W') : Exit.then K Q .normal a W := k W h
end HeldP
end Go.Proofs.Ytjmdjdkpcmekmaa
