/- What the rows of this seat list: the table of powers of ten; and the tables that a witness wants. -/
import Derived.Test.YteicdlomjhjiiaaDoorDt8
import Derived.Stop.LaidErr
import Derived.LaidSub
import Derived.OpenShut
namespace Go.Proofs.YteicdlomjhjiiaaDoor
open Go.RowKit
theorem cellsU : Tryd.prog.cellsOf 29 = 1 := by kernel_rfl
theorem gP : Tryd.prog.globalNamed nmP = some 0 := by kernel_rfl
theorem tabP_of {l : List (String × DataW Unit)} {W : World} (he : l.filter (fun x => x.1 == nmP) = [(nmP, Lib.tabData .u64 Lib.pow10Tab)]) (h : laidMet Tryd.prog l W) : TabP W := by
  have h1 := laidMet.filter (fun x => x.1 == nmP) h
  rw [he] at h1
  exact Lib.tabIs_of_head gP (t := 77) (n := 20) (by kernel_rfl) (by kernel_rfl) Tryd.underlying29 cellsU (by kernel_rfl) h1
/-- The tables as their initialisers lay them. -/
def p10a : Array Value := (Lib.pow10Tab.map fun z => Value.int .u64 z).toArray
def db32 : Array Value := (([0, 1, 28, 2, 29, 14, 24, 3, 30, 22, 20, 15, 25, 17, 4, 8, 31, 27, 13, 23, 21, 19, 16, 7, 26, 12, 18, 6, 11, 5, 10, 9] : List Int).map fun z => Value.int .u8 z).toArray
def db64 : Array Value := (([0, 1, 56, 2, 57, 49, 28, 3, 61, 58, 42, 50, 38, 29, 17, 4, 62, 47, 59, 36, 45, 43, 51, 22, 53, 39, 33, 30, 24, 18, 12, 5, 63, 55, 48, 27, 60, 41, 37, 16, 46, 35, 44, 21, 52, 32, 23, 11, 54, 26, 40, 15, 34, 20, 31, 10, 25, 14, 19, 9, 13, 8, 7, 6] : List Int).map fun z => Value.int .u8 z).toArray
end Go.Proofs.YteicdlomjhjiiaaDoor
