import Derived.Test.YtbimcammjohaoacDoorUvm
import Derived.Test.YtbimcammjohaoacDoorRd5
import Derived.Test.YtbimcammjohaoacDoorGw
namespace Go.Proofs.YtbimcammjohaoacDoor
open Go.ChangeShapes Go.WideShapes Go.ChangeAt Go.RowKit
set_option linter.unusedVariables false
set_option linter.unusedSimpArgs false

theorem str_reads (P U : List Int) (s : ByteArray) (h : U = strInts s) : strF (fun i => (P ++ U).getD i 0) P.length s.size = s := by
  apply ByteArray.ext
  unfold strF
  simp only
  apply Array.toList_inj.1
  apply List.ext_getElem?
  intro i
  by_cases hi : i < s.size
  · have hi' : i < s.data.toList.length := by simpa using hi
    simp only [List.getElem?_map, List.getElem?_range hi, Option.map_some, List.getD]
    rw [List.getElem?_append_right (by omega), h]
    simp only [strInts, Nat.add_sub_cancel_left, List.getElem?_map, List.getElem?_eq_getElem hi', Option.map_some, Option.getD_some]
    simp
  · have hi' : ¬ i < s.data.toList.length := by simpa using hi
    rw [List.getElem?_eq_none (by simp; omega), List.getElem?_eq_none (by omega)]

end Go.Proofs.YtbimcammjohaoacDoor
