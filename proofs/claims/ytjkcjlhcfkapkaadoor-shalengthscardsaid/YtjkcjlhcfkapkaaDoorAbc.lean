/- The sum of three letters, reckoned by the kernel. -/
import Derived.Test.YtjkcjlhcfkapkaaDoorInv
import Derived.KernelRfl
namespace Go.Proofs.YtjkcjlhcfkapkaaDoor
theorem abc_sum : (shaB [97, 98, 99]).take 8 = [221, 175, 53, 161, 147, 97, 122, 186] := by kernel_rfl
end Go.Proofs.YtjkcjlhcfkapkaaDoor
