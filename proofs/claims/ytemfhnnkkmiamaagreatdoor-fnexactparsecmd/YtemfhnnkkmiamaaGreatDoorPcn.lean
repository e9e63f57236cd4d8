import Derived.Test.YtemfhnnkkmiamaaGreatDoorPcm
import Derived.Test.YtemfhnnkkmiamaaGreatDoorPcl
import Derived.Test.YtemfhnnkkmiamaaGreatDoorPck
import Derived.Test.YtemfhnnkkmiamaaGreatDoorShel4
namespace Go.Proofs.YtemfhnnkkmiamaaGreatDoor
open Go.ChangeShapes Go.WideShapes Go.ChangeAt Go.RowKit
set_option linter.unusedVariables false
set_option linter.unusedSimpArgs false

theorem cut_n (c : UInt8) (s : ByteArray) : (cutW c s).length = Lib.countB s ⟨#[c]⟩ + 1 := Lib.splitB_all ⟨#[c]⟩ (Nat.le_refl 1) 0 _ s rfl

theorem splitC (c : UInt8) (s : ByteArray) (m : Int) (w : World) (hs : s.size ≤ 1048576) (hm : w.cell? ⟨0, 0, none⟩ = some (.int .i64 m)) :
    Calls Tryz.prog 13 #[.string s, .string ⟨#[c]⟩] w fun e w' => e = .returned (.slice (some ⟨w.heap.size, 0, none⟩) (cutW c s).length (cutW c s).length) ∧ w' = w.alloc (.cells ((cutW c s).map Value.string).toArray 9) := by
  have h := Any.strings_Split Tryz.splitL (by kernel_rfl) s ⟨#[c]⟩ m w (by omega) hm (Nat.le_refl 1)
  rw [cut_n]
  exact h
theorem hasT_eq (ts : List ByteArray) (x : ByteArray) : Lib.containsS ts x = hasT ts x := by
  rw [Bool.eq_iff_iff, Lib.containsS_iff]
  unfold hasT
  rw [List.any_eq_true]
  constructor
  · intro h; exact ⟨x, h, by simp⟩
  · rintro ⟨y, hy, e⟩
    have : y = x := toList_inj (by simpa using e)
    rw [← this]; exact hy

theorem made_wr (w : World) (ts : List ByteArray) : Wr (w.alloc (.cells (ts.map Value.string).toArray 9)) w.heap.size 9 ts.length (fun i => .string (gS ts i)) := by
  refine ⟨(ts.map Value.string).toArray, Array.getElem?_push_size, by simp, fun i hi => ?_⟩
  simp [gS, List.getD, hi]
theorem Wr.sseg {w : World} {g : Nat} {ts : List ByteArray} (h : Wr w g 9 ts.length (fun i => .string (gS ts i))) : SSeg w (some ⟨g, 0, none⟩) ts :=
  .inr ⟨g, 0, rfl, h.lt, fun i hi => by rw [Nat.zero_add]; exact h.cell hi⟩
theorem Wr.below {w w' : World} {g n : Nat} {t : TypeId} {C : Nat → Value} (h : Wr w g t n C) (hb : Below w.heap.size w w') : Wr w' g t n C := h.same (hb.block g h.lt)

def PV (w : World) (B : Nat) (pv : Value) (p : List ByteArray) : Prop := (p = [] ∧ pv = .slice none 0 0) ∨ ∃ g c, B ≤ g ∧ pv = .slice (some ⟨g, 0, none⟩) p.length c ∧ p.length ≤ c ∧ c ≤ 1048578 ∧ Wr w g 9 p.length (fun i => .string (gS p i))
theorem PV.below {w w' : World} {B : Nat} {pv : Value} {p : List ByteArray} (h : PV w B pv p) (hb : Below w.heap.size w w') : PV w' B pv p := by
  refine h.imp id ?_
  rintro ⟨g, c, h1, h2, h3, h4, h5⟩
  exact ⟨g, c, h1, h2, h3, h4, h5.below hb⟩
theorem PV.set {w : World} {B : Nat} {pv : Value} {p : List ByteArray} (h : PV w B pv p) (q : Addr) (u : Value) (hq : q.block < B) : PV (w.setCell q u) B pv p := by
  refine h.imp id ?_
  rintro ⟨g, c, h1, h2, h3, h4, h5⟩
  exact ⟨g, c, h1, h2, h3, h4, h5.same (Below.heap_setCell _ _ _ _ (by omega))⟩
theorem PV.wide {w : World} {B B' : Nat} {pv : Value} {p : List ByteArray} (h : PV w B pv p) (hB : B' ≤ B) : PV w B' pv p := by
  refine h.imp id ?_
  rintro ⟨g, c, h1, h2⟩
  exact ⟨g, c, by omega, h2⟩
theorem PV.form {w : World} {B : Nat} {pv : Value} {p : List ByteArray} (h : PV w B pv p) : ∃ a c, pv = .slice a p.length c ∧ p.length ≤ c ∧ c ≤ 1048578 ∧ SSeg w a p := by
  rcases h with ⟨rfl, rfl⟩ | ⟨g, c, h1, rfl, h3, h4, h5⟩
  · exact ⟨none, 0, rfl, Nat.le_refl _, by omega, .inl rfl⟩
  · exact ⟨_, c, rfl, h3, h4, h5.sseg⟩
set_option maxRecDepth 100000 in
set_option maxHeartbeats 2000000 in
theorem readPathC (s : ByteArray) (m : Int) (w : World) (hs : s.size ≤ 1048576) (hm : w.cell? ⟨0, 0, none⟩ = some (.int .i64 m)) :
    Calls Tryz.prog 67 #[.string s] w fun e w' => ∃ a n c, e = .returned (.tuple #[.slice a n c, .bool (pthR s).isSome]) ∧ Below w.heap.size w w' ∧ PV w' w.heap.size (.slice a n c) ((pthR s).getD []) := by
  obtain ⟨R, hR⟩ : ∃ R, pthR s = R := ⟨_, rfl⟩
  rw [hR]
  have HR := hid hR
  have HS := hid (splitC 47 s m w hs hm)
  have hl := cut_len 47 s
  obtain ⟨ts, hts⟩ : ∃ ts, cutW 47 s = ts := ⟨_, rfl⟩
  rw [hts] at HS hl
  have HT := hid hts
  clear hR hm hts
  go_enter Tryz.func67, Tryz.ntmps67
  go_wp2_with fail
  refine HS.out.mono ?_
  rintro e w1 ⟨rfl, hw1⟩
  have b1 : Below w.heap.size w w1 := by rw [hw1]; exact (Below.refl _ _).alloc (Nat.le_refl _) _
  have W1 : Wr w1 w.heap.size 9 ts.length (fun i => .string (gS ts i)) := by rw [hw1]; exact made_wr w ts
  have HC := hid (Any.slices_Contains_string Tryz.containsL w.heap.size 0 ts.length ts.length ts ⟨#[]⟩ w1 (Nat.le_refl _) (by omega) (fun j hj => by rw [Nat.zero_add]; exact W1.cell hj))
  rw [List.take_length, hasT_eq] at HC
  have HB1 := hid b1
  have HW1 := hid W1
  clear hw1 b1 W1 HS
  obtain ⟨Q, hQ⟩ : ∃ Q, hasT ts ⟨#[]⟩ = Q := ⟨_, rfl⟩
  rw [hQ] at HC
  have HQ := hid hQ
  clear hQ
  go_wp2_with fail
  refine Calls.mono HC.out ?_
  rintro e w' ⟨rfl, rfl⟩
  clear HC
  cases Q with
  | true =>
    have HE : Hid (R = none) := hid (by rw [← HR.out]; unfold pthR; rw [HT.out, HQ.out]; rfl)
    go_wp2_with fail
    refine bodyPost_ret (v := .tuple #[.slice none 0 0, .bool false]) (by simp [results, Tryz.results67, go_sem]) rfl ?_
    rw [HE.out]
    exact ⟨none, 0, 0, rfl, HB1.out, .inl ⟨rfl, rfl⟩⟩
  | false =>
    have HE : Hid (R = some ts) := hid (by rw [← HR.out]; unfold pthR; rw [HT.out, HQ.out]; rfl)
    go_wp2_with fail
    refine bodyPost_ret (v := .tuple #[.slice (some ⟨w.heap.size, 0, none⟩) ts.length ts.length, .bool true]) (by simp [results, Tryz.results67, go_sem]) rfl ?_
    rw [HE.out]
    exact ⟨_, _, _, rfl, HB1.out, .inr ⟨_, _, Nat.le_refl _, rfl, Nat.le_refl _, by omega, HW1.out⟩⟩

def cmV (c : Cm) (pv : Value) : List Value := [.string c.w, .int .i64 c.a, .int .i64 c.b, .int .i64 c.n, .int .i64 c.x, pv, .string c.v]

structure CX (w : World) (b B : Nat) (c : Cm) (pv : Value) : Prop where
  box : BxL w b (cmV c pv)
  pth : PV w B pv c.p
  lt : b < B
  le : B ≤ w.heap.size
theorem CX.below {w w' : World} {b B : Nat} {c : Cm} {pv : Value} (h : CX w b B c pv) (hb : Below w.heap.size w w') : CX w' b B c pv := ⟨h.box.below hb, h.pth.below hb, h.lt, Nat.le_trans h.le hb.size⟩
theorem CX.setI {w : World} {b B : Nat} {c c' : Cm} {pv : Value} (h : CX w b B c pv) (i : Nat) (u : Value) (hi : i < 7) (e : (cmV c pv).set i u = cmV c' pv) (hp : c'.p = c.p) : CX (w.setCell ⟨b, i, none⟩ u) b B c' pv :=
  ⟨by rw [← e]; exact h.box.set i u hi, by rw [hp]; exact h.pth.set _ _ h.lt, h.lt, by simp [World.setCell]; exact h.le⟩
theorem CX.setP {w : World} {b B : Nat} {c : Cm} {pv pv' : Value} {p : List ByteArray} (h : CX w b B c pv) (hp : PV w B pv' p) : CX (w.setCell ⟨b, 5, none⟩ pv') b B { c with p := p } pv' :=
  ⟨h.box.set 5 pv' (show 5 < 7 by decide), hp.set _ _ h.lt, h.lt, by simp [World.setCell]; exact h.le⟩
theorem grown_b {w w1 : World} {b : Nat} (hb : Below w.heap.size w w1) (i : Nat) (u : Value) : w.grownBy (w1.setCell ⟨b, i, none⟩ u) (some b) := grown_set (grown_below (grown_refl (some b)) hb) i u
end Go.Proofs.YtemfhnnkkmiamaaGreatDoor
