import Derived.Test.YtdenbicnckkdfaaGreatMg24
import Derived.Test.YtdenbicnckkdfaaGreatMg05
import Derived.Maps.Range
import Derived.Lib.AppendStr
import Derived.Laws.IdiomStrings
namespace Go.Proofs.YtdenbicnckkdfaaGreat
open Go.ChangeShapes Go.WideShapes Go.ChangeAt Go.RowKit Go.Maps
set_option linter.unusedVariables false
set_option linter.unusedSimpArgs false

set_option maxRecDepth 100000 in
set_option maxHeartbeats 800000 in
theorem appendUvG (B m0 : Nat) (bv : Value) (zs0 : List Int) (w : World) (hm : m0 < 18446744073709551616) (hB : B ≤ w.heap.size) (hl : zs0.length ≤ 1000000000000) (ho : Own w B bv zs0) :
    Calls Tryz.prog 76 #[bv, .int .u64 (m0 : Int)] w fun e w' => ∃ v, e = .returned v ∧ Own w' B v (zs0 ++ uvF 9 m0) ∧ Gr w w' bv v ∧ w.heap.size < w'.heap.size := by
  obtain ⟨i0, hi, hz0, hz1, hz2⟩ := info_parts Tryz.infoByte
  go_enter Tryz.func76, Tryz.ntmps76
  go_wp2_with fail
  go_loopw [0, 1] (fun b v wr => ∃ (k m : Nat) (zs : List Int), k ≤ 9 ∧ m < 128 ^ (k + 1) ∧ m < 18446744073709551616 ∧ v = .int .u64 (m : Int) ∧ Own wr B b zs ∧ Gr w wr bv b ∧ w.heap.size ≤ wr.heap.size ∧ zs.length + k ≤ zs0.length + 9 ∧ zs ++ uvF k m = zs0 ++ uvF 9 m0) (fun _ v _ => (intOf v).toNat)
  case atStart => exact ⟨9, m0, zs0, Nat.le_refl _, by omega, hm, rfl, ho, Gr.refl _ _, Nat.le_refl _, Nat.le_refl _, rfl⟩
  case round =>
    obtain ⟨k, m, zs, hk, hmk, hm64, rfl, hown, hbel, hsz, hlen, heq⟩ := hrel
    have HE : Hid (zs ++ uvF k m = zs0 ++ uvF 9 m0) := heq
    have HK : Hid (m < 128 ^ (k + 1)) := hmk
    have HGR := hid hbel
    clear heq ho hmk hbel
    unfold Own at hown
    by_cases hlt : m < 128
    · go_wp2_with (at_builtin; refine wpList_app_at rfl _ _ 39 rfl B 5 i0 (.int .u8 0) 1 1 Tryz.underlying39 hi hz0 hz1 hz2 rfl (by decide) _ _ _ rfl (hown.alloc _) ⟨wr.heap.size, 0, none⟩ 1 1 [.int .u8 (m : Int)] rfl rfl ?c1 ?c2 ?c3 ?c4 ?c5 ?_)
      case c1 => exact cell_one_new _ _ _
      case c2 => intro u hu; simp at hu; subst hu; rfl
      case c3 => unfold maxLen; omega
      case c4 => omega
      case c5 => simp; omega
      · intro v' w1 hown' hgr hloc
        have R : Own w1 B v' (zs0 ++ uvF 9 m0) := by
          rw [← HE.out, uvF_lt k m hlt]
          unfold Own
          rw [List.length_append, List.map_append]
          exact hown'
        have RB := hid ((HGR.out.alloc _).trans (Gr.app (b' := v') hgr (by simpa using hloc)))
        have RZ := hgr.size
        simp at RZ
        clear hown' hgr hown hloc HGR
        go_wp2
        go_ret
        exact ⟨v', rfl, R, RB.out, by omega⟩
    · have e1 := and127 m hm64
      have e2 : bits BinOp.or IntKind.u8 ((m : Int) % 128) 128 = 128 + (m : Int) % 128 := by
        have := or128 (m % 128) (by omega)
        simpa using this
      go_wp2_with (at_builtin; refine wpList_app_at rfl _ _ 39 rfl B 5 i0 (.int .u8 0) 1 1 Tryz.underlying39 hi hz0 hz1 hz2 rfl (by decide) _ _ _ rfl (hown.alloc _) ⟨wr.heap.size, 0, none⟩ 1 1 [.int .u8 (128 + (m : Int) % 128)] rfl rfl ?d1 ?d2 ?d3 ?d4 ?d5 ?_)
      case d1 => exact cell_one_new _ _ _
      case d2 => intro u hu; simp at hu; subst hu; rfl
      case d3 => unfold maxLen; omega
      case d4 => omega
      case d5 => simp; omega
      · intro v' w1 hown' hgr hloc
        have hk1 : 1 ≤ k := by
          have := HK.out
          rcases Nat.eq_zero_or_pos k with rfl | h
          · simp at this; omega
          · exact h
        obtain ⟨j, rfl⟩ : ∃ j, k = j + 1 := ⟨k - 1, by omega⟩
        have R : Own w1 B v' (zs ++ [128 + (m : Int) % 128]) := by
          unfold Own
          rw [List.length_append, List.map_append]
          exact hown'
        have RE : Hid (zs ++ [128 + (m : Int) % 128] ++ uvF j (m / 128) = zs0 ++ uvF 9 m0) := by
          have := HE.out
          rw [uvF_ge j m hlt] at this
          show _ = _
          rw [← this]; simp
        have RK : Hid (m / 128 < 128 ^ (j + 1)) := by
          have := HK.out
          rw [Nat.pow_succ] at this
          show _ < _
          omega
        have RB := hid ((HGR.out.alloc _).trans (Gr.app (b' := v') hgr (by simpa using hloc)))
        have RZ := hgr.size
        simp at RZ
        clear hown' hgr hown HE HK e2 e1 hloc HGR
        go_wp2
        go_roundw
        case rel => exact ⟨j, m / 128, _, by omega, RK.out, by omega, by go_num, R, RB.out, by omega, by simp; omega, RE.out⟩
        case measure => simp [intOf]; omega
end Go.Proofs.YtdenbicnckkdfaaGreat

namespace Go.Proofs.YtdenbicnckkdfaaGreat
open Go.ChangeShapes Go.WideShapes Go.ChangeAt Go.RowKit
set_option linter.unusedVariables false

def strInts (s : ByteArray) : List Int := s.data.toList.map fun b => (b.toNat : Int)
theorem strInts_length (s : ByteArray) : (strInts s).length = s.size := by
  rw [strInts, List.length_map, Array.length_toList]; rfl
theorem strInts_cells (s : ByteArray) : (strInts s).map (Value.int .u8) = Lib.strCells s := by
  simp [strInts, Lib.strCells, List.map_map, Function.comp_def]
theorem strInts_byte (s : ByteArray) : ∀ z ∈ strInts s, 0 ≤ z ∧ z < 256 := by
  intro z hz
  simp only [strInts, List.mem_map] at hz
  obtain ⟨b, _, rfl⟩ := hz
  have := b.toNat_lt
  omega

theorem bytesOfStr (s : ByteArray) (w : World) : ∃ cap w', (convert 9 39 (.string s)).run Tryz.prog w = .ok (.slice (some ⟨w.heap.size, 0, none⟩) s.size cap) w' ∧ Below w.heap.size w w' ∧ w.heap.size < w'.heap.size ∧
    ∀ j u, (Lib.strCells s)[j]? = some u → w'.cell? ((⟨w.heap.size, 0, none⟩ : Addr).add j) = some u := by
  refine ⟨_, _, run_bytes_of_string (P := Tryz.prog) w 9 39 5 s Tryz.underlying9 Tryz.underlying39 Tryz.underlying5, ?_, ?_, ?_⟩
  · exact (Below.refl _ _).drew.alloc (Nat.le_refl _) _
  · simp
  · intro j u hj
    have hlt : j < s.size := by
      have := (List.getElem?_eq_some_iff.1 hj).1
      rw [Lib.strCells_length] at this; exact this
    have hc : ∀ (C : Array Value) (fr : Nat × Nat), (w.drew.alloc (.cells C 5 fr)).cell? ⟨w.heap.size, j, none⟩ = C[j]? := by
      intro C fr
      exact cell_of_row _ _ _ _ _ _ (heap_alloc_new w.drew _)
    have e : ((⟨w.heap.size, 0, none⟩ : Addr).add j) = ⟨w.heap.size, j, none⟩ := by
      by_cases h0 : j = 0
      · subst h0; rfl
      · simp [Addr.add, h0]
    rw [e, hc]
    simp only [bytesRow]
    rw [Array.getElem?_append_left (by simp; exact hlt)]
    simp only [Lib.strCells] at hj
    rw [← hj]
    simp

def textInts (s : ByteArray) : List Int := uvF 9 s.size ++ strInts s

set_option maxRecDepth 100000 in
set_option maxHeartbeats 800000 in
theorem specText (s : ByteArray) (w : World) (hs : s.size ≤ 1048576) :
    Calls Tryz.prog 97 #[.string s] w fun e w' => ∃ v, e = .returned v ∧ Own w' w.heap.size v (textInts s) ∧ Below w.heap.size w w' ∧ w.heap.size < w'.heap.size := by
  obtain ⟨i0, hi, hz0, hz1, hz2⟩ := info_parts Tryz.infoByte
  have HL := uvF_len 9 s.size
  go_enter Tryz.func97, Tryz.ntmps97
  go_wp2_with fail
  refine (specUv 9 s.size _ (Nat.le_refl _) (hid (by omega)) (by omega)).mono ?_
  rintro e w1 ⟨v1, rfl, o1, b1, z1⟩
  obtain ⟨cap, w2, hrun, b2, z2, hcs⟩ := bytesOfStr s w1
  have hd : w2.ownsRow w.heap.size 5 1 v1 (uvF 9 s.size).length ((uvF 9 s.size).map (Value.int .u8)) := o1.kept b2 (fun k hk => (o1.lt k hk).2)
  have hlt : ∀ k, v1.ownBlock = some k → w.heap.size ≤ k := fun k hk => (o1.lt k hk).1
  have HN := hid hcs
  have HT := hid hlt
  have hone := Lib.strCells_oneCell s
  have hlen := Lib.strCells_length s
  have HO := hid hone
  have HLN := hid hlen
  clear hcs o1 hone hlen hlt
  go_wp2_with (at_builtin; refine wpList_append_own _ rfl _ _ 39 rfl w.heap.size 5 i0 (.int .u8 0) 1 1 Tryz.underlying39 hi hz0 hz1 hz2 rfl (by decide) _ _ _ rfl hd ⟨w1.heap.size, 0, none⟩ s.size cap (Lib.strCells s) rfl (by rw [HLN.out]; omega) HN.out HO.out ?c3 ?c4 ?c5 ?_)
  case c3 => unfold maxLen; omega
  case c4 => omega
  case c5 => omega
  · intro v' w3 hown' hgr _
    have R : Own w3 w.heap.size v' (textInts s) := by
      unfold Own textInts
      rw [List.length_append, List.map_append, strInts_length, strInts_cells]
      exact hown'
    have RB : Below w.heap.size w w3 := (b1.trans (b2.mono (by omega))).grown hgr (by omega) HT.out
    have RZ := hgr.size
    clear hown' hgr hd HN HO HLN hrun
    go_wp2_with fail
    go_ret
    exact ⟨v', rfl, R, RB, by omega⟩

set_option maxRecDepth 100000 in
set_option maxHeartbeats 800000 in
theorem appendTextC (B : Nat) (bv : Value) (zs0 : List Int) (s : ByteArray) (w : World) (hs : s.size ≤ 1048576) (hB : B ≤ w.heap.size) (hl : zs0.length ≤ 1000000000) (ho : Own w B bv zs0) :
    Calls Tryz.prog 77 #[bv, .string s] w fun e w' => ∃ v, e = .returned v ∧ Own w' B v (zs0 ++ textInts s) ∧ Below B w w' ∧ w.heap.size < w'.heap.size := by
  obtain ⟨i0, hi, hz0, hz1, hz2⟩ := info_parts Tryz.infoByte
  have HL := uvF_len 9 s.size
  go_enter Tryz.func77, Tryz.ntmps77
  go_wp2_with fail
  refine (appendUv B s.size bv zs0 w (by omega) hB (by omega) ho).mono ?_
  rintro e w1 ⟨v1, rfl, o1, b1, z1⟩
  have hlt : ∀ k, v1.ownBlock = some k → B ≤ k := fun k hk => (o1.lt k hk).1
  have HT := hid hlt
  have hll : (zs0 ++ uvF 9 s.size).length ≤ 1000000000 + 10 := by rw [List.length_append]; omega
  clear hlt ho
  unfold Own at o1
  go_wp2_with (at_builtin; refine Lib.wpList_append_own_string _ rfl _ _ 39 9 rfl B 5 i0 Tryz.underlying39 Tryz.underlying9 hi hz0 hz1 hz2 _ _ _ rfl o1 s rfl ?c3 ?c4 ?c5 ?_)
  case c3 => unfold maxLen; omega
  case c4 => omega
  case c5 => omega
  · intro v' w3 hown' hgr _
    have R : Own w3 B v' (zs0 ++ textInts s) := by
      unfold Own textInts
      simp only [List.length_append, List.map_append, strInts_length, strInts_cells]
      rw [← Nat.add_assoc]
      exact hown'
    have RB : Below B w w3 := b1.grown hgr (by omega) HT.out
    have RZ := hgr.size
    clear hown' hgr o1
    go_wp2_with fail
    go_ret
    exact ⟨v', rfl, R, RB, by omega⟩

end Go.Proofs.YtdenbicnckkdfaaGreat
