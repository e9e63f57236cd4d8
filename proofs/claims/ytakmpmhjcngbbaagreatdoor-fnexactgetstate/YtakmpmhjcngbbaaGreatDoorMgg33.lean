import Derived.Test.YtakmpmhjcngbbaaGreatDoorMgg32
import Derived.Shelf.SlIter.Collect
import Derived.Test.YtakmpmhjcngbbaaGreatDoorMgg13
import Derived.Test.YtakmpmhjcngbbaaGreatDoorMgg09
set_option linter.unusedVariables false
set_option linter.unusedSimpArgs false
set_option maxRecDepth 100000
set_option maxHeartbeats 40000000
namespace Go.Proofs.YtakmpmhjcngbbaaGreatDoor
open Go.ChangeShapes Go.WideShapes Go.ChangeAt Go.RowKit Go.Maps
section
variable {α β : Type} {w : World} {t : TypeId} {kv : α → Value} {vo : Option β → Value} {b c : Nat} {f : α → Option β} {D : DataW Value}
end
section
variable {α β : Type} {w w' : World} {t : TypeId} {kv : α → Value} {vo : Option β → Value} {mo : Option Nat} {r c cnt : Nat} {f : α → Option β} {ds : List α}
end
section
variable {α β : Type} {t : TypeId} {kv : α → Value} {vo : Option β → Value} {mo : Option Nat} {r c cnt : Nat} {f : α → Option β} {ds : List α}
variable (w : World) {ops : Array Oper} {rest : List Oper} {o : Oper} {a : Act} {Q : Exit → Act → World → Prop}
end
section
variable {α β : Type} {w w' : World} {t : TypeId} {kv : α → Value} {vo : Option β → Value} {mo : Option Nat} {r c cnt : Nat} {f : α → Option β} {ds : List α}
end
structure TJ (w : World) (B : Nat) (J : List Lf) (N : List Ky → Option (Nat × Nat)) (c : Nat) : Prop where
  tre : Tre w B N (fun r => Mk J J.length r) c
  there : ∀ z y, (N (z ++ [y])).isSome = true ↔ Ah J (z ++ [y])
  dis : Dis J J.length
theorem JF.tj {w : World} {B : Nat} {J : List Lf} {N : List Ky → Option (Nat × Nat)} {c : Nat} {x0 : Nat × Nat} (h : JF w B J [] N c x0) (hd : Dis J J.length) : TJ w B J N c :=
  ⟨by simpa using h.tre, fun z y => by
    cases z with
    | nil => simpa using h.there y []
    | cons u r => simpa using h.there u (r ++ [y]), hd⟩
end Go.Proofs.YtakmpmhjcngbbaaGreatDoor
