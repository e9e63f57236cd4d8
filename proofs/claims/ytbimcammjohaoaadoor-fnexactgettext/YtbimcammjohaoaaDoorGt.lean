import Derived.Test.YtbimcammjohaoaaDoorGm
import Derived.Laws.IdiomStrings
namespace Go.Proofs.YtbimcammjohaoaaDoor
open Go.ChangeShapes Go.WideShapes Go.ChangeAt Go.RowKit
set_option linter.unusedVariables false
set_option linter.unusedSimpArgs false

theorem uvX (cb B : Nat) (a : Option Addr) (n c m : Nat) (x : Int) (f : Nat → Int) (aT aS aL aE : Addr) (w : World) (hn : n ≤ 1048576) (hf : Byt f) (h : Seg w a n f) (hcur : Cur w cb a n c x) (hm : Cnt f n x.toNat m) (hE : Errs w B aT aS aL aE) (hBc : B ≤ cb) (hne : ∀ y, a = some y → y.block ≠ cb) :
    Calls Tryd.prog 12 #[.pointer (some ⟨cb, 0, none⟩)] w fun e w' => w.grownBy w' (some cb) ∧ (((gX f n m x).2.2 = 0 ∧ e = .returned (.tuple #[.int .u64 ((gX f n m x).1 : Int), .nilIface]) ∧ Cur w' cb a n c (gX f n m x).2.1) ∨
      ((gX f n m x).2.2 ≠ 0 ∧ ∃ pb, e = .returned (.tuple #[.int .u64 0, .iface 46 (.pointer (some ⟨pb, 0, none⟩))]) ∧ w.heap.size ≤ pb ∧ Plc w' pb x (.iface 85 (.pointer (some (adr aT aS aE (gX f n m x).2.2)))) ∧ ∃ y, Cur w' cb a n c y)) := by
  by_cases h1 : x < 0 ∨ (n : Int) ≤ x
  · rw [gX_out h1]
    refine (uvOut cb B a n c x aT aS aL aE w hn hcur h1 hE).mono ?_
    rintro e w' ⟨pb, rfl, hpb, hP, hb⟩
    exact ⟨⟨hb.os, hb.tape, hb.output, hb.size, fun k hk _ => hb.block k hk⟩, .inr ⟨by simp, pb, rfl, hpb, hP, x, hcur.below hb hcur.lt⟩⟩
  · obtain ⟨p, rfl⟩ : ∃ p : Nat, x = (p : Int) := ⟨x.toNat, by omega⟩
    have hp : p < n := by omega
    rw [gX_in hp]
    rcases h with h | ⟨b, off, rfl, hb, hc⟩
    · omega
    exact uvIn cb B b off n c p m f aT aS aL aE w hn hf hcur hp (by simpa using hm) hE hBc (hne _ rfl) hb hc

def strF (f : Nat → Int) (p L : Nat) : ByteArray := ⟨((List.range L).map fun i => UInt8.ofNat (f (p + i)).toNat).toArray⟩
theorem strF_conv {w : World} {b off p L cap : Nat} {f : Nat → Int} (hf : Byt f) (hc : ∀ i, i < L → w.cell? ⟨b, off + p + i, none⟩ = some (.int .u8 (f (p + i)))) :
    (convert 22 9 (.slice (some ⟨b, off + p, none⟩) L cap)).run Tryd.prog w = .ok (.string (strF f p L)) w := by
  have hl : ((List.range L).map fun i => UInt8.ofNat (f (p + i)).toNat).length = L := by simp
  have := run_convert_bytes_back (P := Tryd.prog) w 22 9 5 ⟨b, off + p, none⟩ cap ((List.range L).map fun i => UInt8.ofNat (f (p + i)).toNat) Tryd.underlying22 Tryd.underlying5 Tryd.underlying9 (fun j hj => by
    have hj' : j < L := by simpa using hj
    have e : (Addr.add ⟨b, off + p, none⟩ j) = ⟨b, off + p + j, none⟩ := by
      by_cases h0 : j = 0
      · subst h0; simp [Addr.add]
      · simp [Addr.add, h0]
    rw [e, hc j hj']
    have := hf (p + j)
    simp only [List.getElem_map, List.getElem_range, Option.some.injEq, Value.int.injEq, true_and]
    have h2 : (UInt8.ofNat (f (p + j)).toNat).toNat = (f (p + j)).toNat % 256 := by simp
    rw [h2]; omega)
  rw [hl] at this
  exact this

theorem strF_none {w : World} (ad : Addr) (p cap : Nat) (f : Nat → Int) : (convert 22 9 (.slice (some ad) 0 cap)).run Tryd.prog w = .ok (.string (strF f p 0)) w :=
  run_convert_bytes_back (P := Tryd.prog) w 22 9 5 ad cap [] Tryd.underlying22 Tryd.underlying5 Tryd.underlying9 (fun j hj => by simp at hj)

def gtX (f : Nat → Int) (n m : Nat) (x most : Int) : ByteArray × Int × Nat :=
  if (gX f n m x).2.2 ≠ 0 then (⟨#[]⟩, x, (gX f n m x).2.2)
  else if most < 0 ∨ most < (gX f n m x).1 then (⟨#[]⟩, x, 4)
  else if (n : Int) - (gX f n m x).2.1 < (gX f n m x).1 then (⟨#[]⟩, x, 1)
  else (strF f (gX f n m x).2.1.toNat (gX f n m x).1, (gX f n m x).2.1 + (gX f n m x).1, 0)

theorem retT {s s' : ByteArray} {b c b' c' : Int} (h1 : s = s') (h2 : b = b') (h3 : c = c') : Ending.returned (.tuple #[.string s, .int .i64 b, .int .i64 c]) = .returned (.tuple #[.string s', .int .i64 b', .int .i64 c']) := by rw [h1, h2, h3]

set_option maxRecDepth 100000 in
set_option maxHeartbeats 1000000 in
theorem specT (a : Option Addr) (n c m : Nat) (x most : Int) (f : Nat → Int) (w : World) (hn : n ≤ 1048576) (hnc : n ≤ c) (hf : Byt f) (h : Seg w a n f) (hm : Cnt f n x.toNat m) (hx : (Lit.int .i64 x).wf = true) (hmo : (Lit.int .i64 most).wf = true) :
    Calls Tryd.prog 9 #[.slice a n c, .int .i64 x, .int .i64 most] w fun e w' => e = .returned (.tuple #[.string (gtX f n m x most).1, .int .i64 (gtX f n m x most).2.1, .int .i64 ((gtX f n m x most).2.2 : Int)]) ∧ Below w.heap.size w w' := by
  have bx := bounds_i64 hx
  have bm := bounds_i64 hmo
  have HG := hid (gX_bounds hm hf hn bx.1 bx.2)
  have HS := hid (specX a n c m x f w hn hf h hm)
  have HX : Hid (gtX f n m x most = gtX f n m x most) := hid rfl
  have HXe : Hid (gtX f n m x most = if (gX f n m x).2.2 ≠ 0 then (⟨#[]⟩, x, (gX f n m x).2.2)
      else if most < 0 ∨ most < (gX f n m x).1 then (⟨#[]⟩, x, 4)
      else if (n : Int) - (gX f n m x).2.1 < (gX f n m x).1 then (⟨#[]⟩, x, 1)
      else (strF f (gX f n m x).2.1.toNat (gX f n m x).1, (gX f n m x).2.1 + (gX f n m x).1, 0)) := hid rfl
  obtain ⟨T, hT⟩ : ∃ T, gtX f n m x most = T := ⟨_, rfl⟩
  have HT := hid hT
  rw [hT]
  rw [hT] at HXe
  clear HX hT
  have hout : (gX f n m x).2.2 = 0 → 0 < n := fun h0 => by
    rcases Nat.eq_zero_or_pos n with h1 | h1
    · rw [gX_out (by omega)] at h0; simp at h0
    · exact h1
  obtain ⟨V, hV⟩ : ∃ V, (gX f n m x).1 = V := ⟨_, rfl⟩
  obtain ⟨A, hA⟩ : ∃ A, (gX f n m x).2.1 = A := ⟨_, rfl⟩
  obtain ⟨C, hC⟩ : ∃ C, (gX f n m x).2.2 = C := ⟨_, rfl⟩
  rw [hV, hA, hC] at HXe HG HS
  rw [hC] at hout
  clear hV hA hC hm hx hmo
  have hb := HG.out
  by_cases hC0 : C = 0
  · subst hC0
    obtain ⟨b1, _, b3, _⟩ := hb
    obtain ⟨b4, b5⟩ := b3 rfl
    clear b3
    obtain ⟨q, rfl⟩ : ∃ q : Nat, A = (q : Int) := ⟨A.toNat, by omega⟩
    have hn0 := hout rfl
    clear hout
    by_cases h1 : most < 0
    · have e : Hid (T = (⟨#[]⟩, x, 4)) := by show _ = _; rw [HXe.out]; simp [h1]
      go_enter Tryd.func9, Tryd.ntmps9
      go_wp2_with fail
      refine HS.out.mono ?_
      rintro e w1 ⟨rfl, bb⟩
      have HB := hid bb
      clear bb
      go_wp2_with fail
      go_ret3
      exact ⟨by rw [e.out]; rfl, HB.out⟩
    obtain ⟨M, rfl⟩ : ∃ M : Nat, most = (M : Int) := ⟨most.toNat, by omega⟩
    have hwm : IntKind.u64.wrap (M : Int) = (M : Int) := by rw [IntKind.wrap_u64]; omega
    have hd1 : decide ((M : Int) < 0) = false := by simp
    by_cases h2 : M < V
    · have e : Hid (T = (⟨#[]⟩, x, 4)) := by show _ = _; rw [HXe.out]; simp [h2]
      go_enter Tryd.func9, Tryd.ntmps9
      go_wp2_with fail
      refine HS.out.mono ?_
      rintro e w1 ⟨rfl, bb⟩
      have HB := hid bb
      clear bb
      go_wp2_with fail
      go_ret3
      exact ⟨by rw [e.out]; rfl, HB.out⟩
    obtain ⟨r, hr⟩ : ∃ r : Nat, (r : Int) = (n : Int) - (q : Int) := ⟨n - q, by omega⟩
    have hwr : IntKind.u64.wrap (IntKind.i64.wrap ((n : Int) - (q : Int))) = (r : Int) := by rw [wrapIn _ (by omega) (by omega), IntKind.wrap_u64]; omega
    have hwr2 : IntKind.u64.wrap ((n : Int) - (q : Int)) = (r : Int) := by rw [IntKind.wrap_u64]; omega
    by_cases h3 : r < V
    · have e : Hid (T = (⟨#[]⟩, x, 1)) := by show _ = _; rw [HXe.out, if_neg (by simp), if_neg (by omega), if_pos (by omega)]
      go_enter Tryd.func9, Tryd.ntmps9
      go_wp2_with fail
      refine HS.out.mono ?_
      rintro e w1 ⟨rfl, bb⟩
      have HB := hid bb
      clear bb
      go_wp2_with fail
      go_ret3
      exact ⟨by rw [e.out]; rfl, HB.out⟩
    have e : Hid (T = (strF f q V, (q : Int) + (V : Int), 0)) := by show _ = _; rw [HXe.out, if_neg (by simp), if_neg (by omega), if_neg (by omega)]; simp
    rcases h with h | ⟨b, off, rfl, hb, hc⟩
    · omega
    have hwV : IntKind.i64.wrap (V : Int) = (V : Int) := wrapIn _ (by omega) (by omega)
    have hcv : ∀ (W : World), Below w.heap.size w W → ∀ cap, Hid ((convert 22 9 (.slice (some ⟨b, off + q, none⟩) V cap)).run Tryd.prog W = .ok (.string (strF f q V)) W) := fun W hW cap =>
      strF_conv hf (fun i hi => by rw [hW.cell (p := ⟨b, _, none⟩) hb, Nat.add_assoc]; exact hc (q + i) (by omega))
    clear hc HXe
    by_cases hcq : q < c
    · go_enter Tryd.func9, Tryd.ntmps9
      go_wp2_with fail
      refine HS.out.mono ?_
      rintro e w1 ⟨rfl, bb⟩
      have HB := hid bb
      have hcv1 := fun cap => (hcv w1 bb cap).out
      clear bb hcv
      go_wp2_with fail
      go_ret3
      exact ⟨by rw [e.out]; rfl, HB.out⟩
    · have hV0 : V = 0 := by omega
      subst hV0
      have hcq2 : c ≤ q := by omega
      clear hcv
      go_enter Tryd.func9, Tryd.ntmps9
      go_wp2_with fail
      refine HS.out.mono ?_
      rintro e w1 ⟨rfl, bb⟩
      have HB := hid bb
      have hcv1 := fun ad cap => strF_none (w := w1) ad q cap f
      clear bb
      go_wp2_with fail
      go_ret3
      exact ⟨by rw [e.out]; rfl, HB.out⟩
  · have e : Hid (T = (⟨#[]⟩, x, C)) := by show _ = _; rw [HXe.out, if_pos hC0]
    have hC1 : 0 < C := by omega
    go_enter Tryd.func9, Tryd.ntmps9
    go_wp2_with fail
    refine HS.out.mono ?_
    rintro e w1 ⟨rfl, bb⟩
    have HB := hid bb
    clear bb
    go_wp2_with fail
    go_ret3
    exact ⟨by rw [e.out]; rfl, HB.out⟩
end Go.Proofs.YtbimcammjohaoaaDoor
