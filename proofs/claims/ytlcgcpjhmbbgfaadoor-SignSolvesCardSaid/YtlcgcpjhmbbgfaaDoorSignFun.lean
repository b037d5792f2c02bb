/-
  Layer 5: the premise of the laws.
-/
import Derived.Test.YtlcgcpjhmbbgfaaDoorSignVer
namespace Go.Proofs.YtlcgcpjhmbbgfaaDoor
open Go.RowKit
namespace Sg
attribute [local go_sem] S3.B_size S3.B_app

theorem landed : Landed := fun W hW => ⟨fun s hs => pkey_ok W hW s hs, fun x ix => pof_ok W x ix, fun x y ix _ => pright_ok W x y ix, fun x y m ix iy hm => psign_ok W hW x y m ix iy hm, fun y m E S iy _ _ hm => pver_ok W hW y E S m iy hm⟩
end Sg
end Go.Proofs.YtlcgcpjhmbbgfaaDoor
