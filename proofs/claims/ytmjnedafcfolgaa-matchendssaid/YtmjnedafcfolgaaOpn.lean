/- Numbers as they come in. -/
import Derived.Test.YtmjnedafcfolgaaRows
import Derived.ProofKit
import Derived.OpenShut
import Derived.SizedLaws
namespace Go.Proofs.Ytmjnedafcfolgaa
open Go.RowKit Go.ChangeShapes Go.WideShapes Go.ChangeAt
theorem i64_of {x : Int} (h : (Lit.int .i64 x).wf = true) : -9223372036854775808 ≤ x ∧ x ≤ 9223372036854775807 := by
  simp [Lit.wf, IntKind.min, IntKind.max, IntKind.signed, IntKind.bits] at h
  omega
end Go.Proofs.Ytmjnedafcfolgaa
