import Derived.Test.YthkppnmnjboiaaaDoorRd
import Derived.Test.YthkppnmnjboiaaaDoorWh
import Derived.Test.YthkppnmnjboiaaaDoorGt
namespace Go.Proofs.YthkppnmnjboiaaaDoor
open Go.ChangeShapes Go.WideShapes Go.ChangeAt Go.RowKit
set_option linter.unusedVariables false
set_option linter.unusedSimpArgs false

def Bys (w : World) (B : Nat) (v : Value) (zs : List Int) : Prop := Own w B v zs ∧ ∀ z ∈ zs, 0 ≤ z ∧ z < 256

theorem rowE (w : World) (B : Nat) (hB : B ≤ w.heap.size) : Own (w.alloc (.cells #[] 5)) B (.slice (some ⟨w.heap.size, 0, none⟩) 0 0) [] := by
  have := World.ownsRow_lit (base := B) (e := 5) (size := 1) w #[] 0 hB (by unfold maxLen; omega) rfl
  simpa [Own] using this

set_option maxRecDepth 100000 in
set_option maxHeartbeats 1000000 in
theorem rdBytes (B rb n : Nat) (w : World) (h : Rd w B rb) (hn : n ≤ 1000) (hB : B ≤ w.heap.size) :
    Calls Tryd.prog 28 #[.pointer (some ⟨rb, 0, none⟩), .int .i64 (n : Int)] w fun e w' => ∃ v zs, e = .returned v ∧ zs.length = n ∧ Bys w' w.heap.size v zs ∧ Rd w' B rb ∧ w.grownBy w' (some rb) := by
  obtain ⟨i0, hi, hz0, hz1, hz2⟩ := info_parts Tryd.infoByte
  have hrb := h.lt
  have HR := hid h
  have HE := hid (rowE w w.heap.size (Nat.le_refl _))
  have HG0 := hid (World.grownBy_alloc w (.cells #[] 5) (some rb))
  have HR0 := hid (h.below (((Below.refl B w).alloc hB (.cells #[] 5))))
  clear h
  go_enter Tryd.func28, Tryd.ntmps28
  go_wp2_with fail
  go_loopw [5, 6] (fun b i wr => ∃ (j : Nat) (zs : List Int), j ≤ n ∧ zs.length = j ∧ i = .int .i64 (j : Int) ∧ Hid (Own wr w.heap.size b zs) ∧ Hid (∀ z ∈ zs, 0 ≤ z ∧ z < 256) ∧ Hid (Rd wr B rb) ∧ Hid (w.grownBy wr (some rb))) (fun _ i _ => n - (intOf i).toNat)
  case atStart => exact ⟨0, [], Nat.zero_le _, rfl, rfl, HE, hid (fun z hz => by cases hz), HR0, HG0⟩
  case round =>
    clear HE HR0 HG0 HR
    obtain ⟨j, zs, hj, hzl, rfl, ho, hby, hr, hg⟩ := hrel
    have zg := hg.out.size
    by_cases hlt : j < n
    · go_wp2_with fail
      refine (rdNext B rb _ hr.out).mono ?_
      rintro e w1 ⟨k, hk, rfl, r1, g1⟩
      have hown1 : w1.ownsRow w.heap.size 5 1 u5 zs.length (zs.map (Value.int .u8)) := World.ownsRow.kept ho.out g1 (by
        cases e : u5.ownBlock with
        | none => exact .inl rfl
        | some g => exact .inr (by have := (World.ownsRow.lt ho.out g e).1; intro h1; injection h1 with h1; omega))
      have HR1 := hid r1
      have HG1 := hid (grown_trans hg.out g1)
      have z1 := g1.size
      clear r1 g1 ho hr hg
      have hwk : IntKind.u8.wrap (k : Int) = (k : Int) := by rw [IntKind.wrap_u8]; omega
      go_wp2_with (at_builtin; refine wpList_app_at rfl _ _ 22 rfl w.heap.size 5 i0 (.int .u8 0) 1 1 Tryd.underlying22 hi hz0 hz1 hz2 rfl (by decide) _ _ _ rfl (hown1.alloc _) ⟨w1.heap.size, 0, none⟩ 1 1 [.int .u8 (k : Int)] rfl rfl ?c1 ?c2 ?c3 ?c4 ?c5 ?_)
      case c1 => exact cell_one_new _ _ _
      case c2 => intro u hu; simp at hu; subst hu; rfl
      case c3 => unfold maxLen; omega
      case c4 => omega
      case c5 => simp; omega
      · intro v' w2 hown' hgr hob
        have R : Hid (Own w2 w.heap.size v' (zs ++ [(k : Int)])) := by
          show Own _ _ _ _
          unfold Own
          rw [List.length_append, List.map_append]
          try rw [hzl]
          exact hown'
        have RB : Hid (Below w.heap.size w1 w2) := ((Below.refl _ _).alloc (by omega) _).grown hgr (by simp; omega) (fun k hk => (hown1.lt k hk).1)
        have HR2 := hid (HR1.out.below (RB.out.mono hB))
        have HG2 : Hid (w.grownBy w2 (some rb)) := ⟨RB.out.os.trans HG1.out.os, RB.out.tape.trans HG1.out.tape, RB.out.output.trans HG1.out.output, Nat.le_trans HG1.out.size RB.out.size, fun k hk hne => (RB.out.block k hk).trans (HG1.out.block k hk hne)⟩
        have HBy : Hid (∀ z ∈ zs ++ [(k : Int)], 0 ≤ z ∧ z < 256) := fun z hz => by
          rcases List.mem_append.1 hz with h | h
          · exact hby.out z h
          · simp at h; subst h; omega
        clear hown' hgr hob RB hown1 HR1 HG1
        go_wp2_with fail
        go_roundw
        case rel => exact ⟨j + 1, zs ++ [(k : Int)], hlt, by simp; omega, by go_num, R, HBy, HR2, HG2⟩
        case measure => simp [intOf]; omega
    · obtain rfl : j = n := by omega
      go_wp2_with fail
      go_ret
      exact ⟨_, zs, rfl, hzl, ⟨ho.out, hby.out⟩, hr.out, hg.out⟩

theorem strOwn {w : World} {B : Nat} {v : Value} {zs : List Int} (h : Bys w B v zs) : ∃ s : ByteArray, s.size = zs.length ∧ ∀ k, (convert 22 9 v).run Tryd.prog (w.drewN k) = .ok (.string s) (w.drewN k) := by
  obtain ⟨ho, hby⟩ := h
  by_cases hz : zs = []
  · subst hz
    obtain ⟨_, h2⟩ := ho
    rcases h2 with ⟨rfl, _⟩ | ⟨g, cap, cur, rfl, _⟩
    · refine ⟨⟨#[]⟩, rfl, fun k => ?_⟩
      rw [run_convert_bytes_string _ _ _ 5 none 0 0 Tryd.underlying22 Tryd.underlying5 Tryd.underlying9]
      rfl
    · exact ⟨_, rfl, fun k => strF_none (w := w.drewN k) ⟨g, 0, none⟩ 0 cap (fun _ => 0)⟩
  · obtain ⟨g, cap, rfl, _, _, _, _, _, s⟩ := ho.shape hz
    rcases s with h0 | ⟨b, off, e, hb, hc⟩
    · exact absurd (List.length_eq_zero_iff.1 h0) hz
    · injection e with e
      injection e with e1 e2 _
      subst e1 e2
      refine ⟨strF (fun i => zs.getD i 0) 0 zs.length, by simp [strF, ByteArray.size], fun k => ?_⟩
      have := strF_conv (w := w.drewN k) (b := g) (off := 0) (p := 0) (L := zs.length) (cap := cap) (f := fun i => zs.getD i 0) (bytesOf hby) (fun i hi => by have := hc i hi; simpa using this)
      simpa using this

end Go.Proofs.YthkppnmnjboiaaaDoor
