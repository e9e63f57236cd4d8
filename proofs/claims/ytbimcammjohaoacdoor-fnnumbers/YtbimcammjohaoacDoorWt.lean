import Derived.Test.YtbimcammjohaoacDoorWv
import Derived.Lib.AppendStr
import Derived.Laws.IdiomStrings
namespace Go.Proofs.YtbimcammjohaoacDoor
open Go.ChangeShapes Go.WideShapes Go.ChangeAt Go.RowKit
set_option linter.unusedVariables false

def strInts (s : ByteArray) : List Int := s.data.toList.map fun b => (b.toNat : Int)
theorem strInts_length (s : ByteArray) : (strInts s).length = s.size := by
  rw [strInts, List.length_map, Array.length_toList]; rfl
theorem strInts_cells (s : ByteArray) : (strInts s).map (Value.int .u8) = Lib.strCells s := by
  simp [strInts, Lib.strCells, List.map_map, Function.comp_def]
theorem strInts_byte (s : ByteArray) : ∀ z ∈ strInts s, 0 ≤ z ∧ z < 256 := by
  intro z hz
  simp only [strInts, List.mem_map] at hz
  obtain ⟨b, _, rfl⟩ := hz
  have := b.toNat_lt
  omega

theorem bytesOfStr (s : ByteArray) (w : World) : ∃ cap w', (convert 9 22 (.string s)).run Tryd.prog w = .ok (.slice (some ⟨w.heap.size, 0, none⟩) s.size cap) w' ∧ Below w.heap.size w w' ∧ w.heap.size < w'.heap.size ∧
    ∀ j u, (Lib.strCells s)[j]? = some u → w'.cell? ((⟨w.heap.size, 0, none⟩ : Addr).add j) = some u := by
  refine ⟨_, _, run_bytes_of_string (P := Tryd.prog) w 9 22 5 s Tryd.underlying9 Tryd.underlying22 Tryd.underlying5, ?_, ?_, ?_⟩
  · exact (Below.refl _ _).drew.alloc (Nat.le_refl _) _
  · simp
  · intro j u hj
    have hlt : j < s.size := by
      have := (List.getElem?_eq_some_iff.1 hj).1
      rw [Lib.strCells_length] at this; exact this
    have hc : ∀ (C : Array Value) (fr : Nat × Nat), (w.drew.alloc (.cells C 5 fr)).cell? ⟨w.heap.size, j, none⟩ = C[j]? := by
      intro C fr
      exact cell_of_row _ _ _ _ _ _ (heap_alloc_new w.drew _)
    have e : ((⟨w.heap.size, 0, none⟩ : Addr).add j) = ⟨w.heap.size, j, none⟩ := by
      by_cases h0 : j = 0
      · subst h0; rfl
      · simp [Addr.add, h0]
    rw [e, hc]
    simp only [bytesRow]
    rw [Array.getElem?_append_left (by simp; exact hlt)]
    simp only [Lib.strCells] at hj
    rw [← hj]
    simp

def textInts (s : ByteArray) : List Int := uvF 9 s.size ++ strInts s

set_option maxRecDepth 100000 in
set_option maxHeartbeats 800000 in
theorem appendTextC (B : Nat) (bv : Value) (zs0 : List Int) (s : ByteArray) (w : World) (hs : s.size ≤ 1048576) (hB : B ≤ w.heap.size) (hl : zs0.length ≤ 1000000000) (ho : Own w B bv zs0) :
    Calls Tryd.prog 27 #[bv, .string s] w fun e w' => ∃ v, e = .returned v ∧ Own w' B v (zs0 ++ textInts s) ∧ Below B w w' ∧ w.heap.size < w'.heap.size := by
  obtain ⟨i0, hi, hz0, hz1, hz2⟩ := info_parts Tryd.infoByte
  have HL := uvF_len 9 s.size
  go_enter Tryd.func27, Tryd.ntmps27
  go_wp2_with fail
  refine (appendUv B s.size bv zs0 w (by omega) hB (by omega) ho).mono ?_
  rintro e w1 ⟨v1, rfl, o1, b1, z1⟩
  have hlt : ∀ k, v1.ownBlock = some k → B ≤ k := fun k hk => (o1.lt k hk).1
  have HT := hid hlt
  have hll : (zs0 ++ uvF 9 s.size).length ≤ 1000000000 + 10 := by rw [List.length_append]; omega
  clear hlt ho
  unfold Own at o1
  go_wp2_with (at_builtin; refine Lib.wpList_append_own_string _ rfl _ _ 22 9 rfl B 5 i0 Tryd.underlying22 Tryd.underlying9 hi hz0 hz1 hz2 _ _ _ rfl o1 s rfl ?c3 ?c4 ?c5 ?_)
  case c3 => unfold maxLen; omega
  case c4 => omega
  case c5 => omega
  · intro v' w3 hown' hgr _
    have R : Own w3 B v' (zs0 ++ textInts s) := by
      unfold Own textInts
      simp only [List.length_append, List.map_append, strInts_length, strInts_cells]
      rw [← Nat.add_assoc]
      exact hown'
    have RB : Below B w w3 := b1.grown hgr (by omega) HT.out
    have RZ := hgr.size
    clear hown' hgr o1
    go_wp2_with fail
    go_ret
    exact ⟨v', rfl, R, RB, by omega⟩

set_option maxRecDepth 100000 in
set_option maxHeartbeats 800000 in
theorem implText (s : ByteArray) (w : World) (hs : s.size ≤ 1048576) :
    Calls Tryd.prog 9 #[.string s] w fun e w' => ∃ v, e = .returned v ∧ Own w' w.heap.size v (textInts s) ∧ Below w.heap.size w w' ∧ w.heap.size < w'.heap.size := by
  go_enter Tryd.func9, Tryd.ntmps9
  go_wp2_with fail
  refine (appendTextC w.heap.size _ [] s w hs (Nat.le_refl _) (by simp) (World.ownsRow_nil _ _ _ _)).mono ?_
  rintro e w1 ⟨v, rfl, ho, hb, hz⟩
  go_wp2_with fail
  go_ret
  exact ⟨v, rfl, ho, hb, hz⟩

end Go.Proofs.YtbimcammjohaoacDoor
