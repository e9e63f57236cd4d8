import Derived.Test.YthkppnmnjboiaaaDoorGm
import Derived.Laws.IdiomStrings
namespace Go.Proofs.YthkppnmnjboiaaaDoor
open Go.ChangeShapes Go.WideShapes Go.ChangeAt Go.RowKit
set_option linter.unusedVariables false
set_option linter.unusedSimpArgs false

theorem uvX (cb B : Nat) (a : Option Addr) (n c m : Nat) (x : Int) (f : Nat → Int) (aT aS aL aE : Addr) (w : World) (hn : n ≤ 4194304) (hf : Byt f) (h : Seg w a n f) (hcur : Cur w cb a n c x) (hm : Cnt f n x.toNat m) (hE : Errs w B aT aS aL aE) (hBc : B ≤ cb) (hne : ∀ y, a = some y → y.block ≠ cb) :
    Calls Tryd.prog 38 #[.pointer (some ⟨cb, 0, none⟩)] w fun e w' => w.grownBy w' (some cb) ∧ (((gX f n m x).2.2 = 0 ∧ e = .returned (.tuple #[.int .u64 ((gX f n m x).1 : Int), .nilIface]) ∧ Cur w' cb a n c (gX f n m x).2.1) ∨
      ((gX f n m x).2.2 ≠ 0 ∧ ∃ pb, e = .returned (.tuple #[.int .u64 0, .iface 82 (.pointer (some ⟨pb, 0, none⟩))]) ∧ w.heap.size ≤ pb ∧ Plc w' pb x (.iface 103 (.pointer (some (adr aT aS aE (gX f n m x).2.2)))) ∧ ∃ y, Cur w' cb a n c y)) := by
  by_cases h1 : x < 0 ∨ (n : Int) ≤ x
  · rw [gX_out h1]
    refine (uvOut cb B a n c x aT aS aL aE w hn hcur h1 hE).mono ?_
    rintro e w' ⟨pb, rfl, hpb, hP, hb⟩
    exact ⟨⟨hb.os, hb.tape, hb.output, hb.size, fun k hk _ => hb.block k hk⟩, .inr ⟨by simp, pb, rfl, hpb, hP, x, hcur.below hb hcur.lt⟩⟩
  · obtain ⟨p, rfl⟩ : ∃ p : Nat, x = (p : Int) := ⟨x.toNat, by omega⟩
    have hp : p < n := by omega
    rw [gX_in hp]
    rcases h with h | ⟨b, off, rfl, hb, hc⟩
    · omega
    exact uvIn cb B b off n c p m f aT aS aL aE w hn hf hcur hp (by simpa using hm) hE hBc (hne _ rfl) hb hc

def strF (f : Nat → Int) (p L : Nat) : ByteArray := ⟨((List.range L).map fun i => UInt8.ofNat (f (p + i)).toNat).toArray⟩
theorem strF_conv {w : World} {b off p L cap : Nat} {f : Nat → Int} (hf : Byt f) (hc : ∀ i, i < L → w.cell? ⟨b, off + p + i, none⟩ = some (.int .u8 (f (p + i)))) :
    (convert 22 9 (.slice (some ⟨b, off + p, none⟩) L cap)).run Tryd.prog w = .ok (.string (strF f p L)) w := by
  have hl : ((List.range L).map fun i => UInt8.ofNat (f (p + i)).toNat).length = L := by simp
  have := run_convert_bytes_back (P := Tryd.prog) w 22 9 5 ⟨b, off + p, none⟩ cap ((List.range L).map fun i => UInt8.ofNat (f (p + i)).toNat) Tryd.underlying22 Tryd.underlying5 Tryd.underlying9 (fun j hj => by
    have hj' : j < L := by simpa using hj
    have e : (Addr.add ⟨b, off + p, none⟩ j) = ⟨b, off + p + j, none⟩ := by
      by_cases h0 : j = 0
      · subst h0; simp [Addr.add]
      · simp [Addr.add, h0]
    rw [e, hc j hj']
    have := hf (p + j)
    simp only [List.getElem_map, List.getElem_range, Option.some.injEq, Value.int.injEq, true_and]
    have h2 : (UInt8.ofNat (f (p + j)).toNat).toNat = (f (p + j)).toNat % 256 := by simp
    rw [h2]; omega)
  rw [hl] at this
  exact this

theorem strF_none {w : World} (ad : Addr) (p cap : Nat) (f : Nat → Int) : (convert 22 9 (.slice (some ad) 0 cap)).run Tryd.prog w = .ok (.string (strF f p 0)) w :=
  run_convert_bytes_back (P := Tryd.prog) w 22 9 5 ad cap [] Tryd.underlying22 Tryd.underlying5 Tryd.underlying9 (fun j hj => by simp at hj)

def gtX (f : Nat → Int) (n m : Nat) (x most : Int) : ByteArray × Int × Nat :=
  if (gX f n m x).2.2 ≠ 0 then (⟨#[]⟩, x, (gX f n m x).2.2)
  else if most < 0 ∨ most < (gX f n m x).1 then (⟨#[]⟩, x, 4)
  else if (n : Int) - (gX f n m x).2.1 < (gX f n m x).1 then (⟨#[]⟩, x, 1)
  else (strF f (gX f n m x).2.1.toNat (gX f n m x).1, (gX f n m x).2.1 + (gX f n m x).1, 0)

theorem retT {s s' : ByteArray} {b c b' c' : Int} (h1 : s = s') (h2 : b = b') (h3 : c = c') : Ending.returned (.tuple #[.string s, .int .i64 b, .int .i64 c]) = .returned (.tuple #[.string s', .int .i64 b', .int .i64 c']) := by rw [h1, h2, h3]

end Go.Proofs.YthkppnmnjboiaaaDoor
