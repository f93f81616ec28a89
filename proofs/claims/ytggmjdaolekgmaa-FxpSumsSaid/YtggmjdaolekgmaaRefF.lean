/-
  The reference: what stands between its parts and its product (nothing here).
-/
import Derived.Test.YtggmjdaolekgmaaRefE
