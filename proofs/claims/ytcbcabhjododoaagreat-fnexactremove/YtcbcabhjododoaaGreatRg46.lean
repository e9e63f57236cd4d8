import Derived.Test.YtcbcabhjododoaaGreatRg45
import Derived.Test.YtcbcabhjododoaaGreatRg44
import Derived.Test.YtcbcabhjododoaaGreatRg39
set_option linter.unusedVariables false
set_option linter.unusedSimpArgs false
set_option maxRecDepth 100000
set_option maxHeartbeats 40000000
namespace Go.Proofs.YtcbcabhjododoaaGreat
open Go.ChangeShapes Go.WideShapes Go.ChangeAt Go.RowKit Go.Maps
section
variable {S : Sx} {rep : Int} {p : List ByteArray} {fl on : Bool} {v : ByteArray}
end
end Go.Proofs.YtcbcabhjododoaaGreat
namespace Go.Proofs.YtcbcabhjododoaaGreat
open Go.ChangeShapes Go.WideShapes Go.ChangeAt Go.RowKit
theorem mt_sm : Sx.mt.Sm := ⟨by simp [Sx.mt], fun i => by simp [Sx.mt, gL], by simp [Sx.mt]⟩
theorem sm_of {S : Sx} (h1 : S.l.length ≤ 1000) (h2 : S.n ≤ 1000) (h3 : ∀ x ∈ S.l, x.p.length ≤ 8) : S.Sm := ⟨by omega, fun i => by
 by_cases hi : i < S.l.length
 ·have := h3 _ (gL_mem.2 ⟨i, hi, rfl⟩); omega
 ·rw [gL_far hi]; simp, by omega⟩
theorem ch_sm {S D : Sx} (hs : StW S.R S.F S.T S.n S.l) (hd : StW D.R D.F D.T D.n D.l) : (chX S D).Sm ∧ (chY S D).Sm := by
 cases h : chF S D with
 | false => obtain ⟨e1, e2, _⟩ := ch_f h; rw [e1, e2]; exact ⟨mt_sm, mt_sm⟩
 | true =>
  obtain ⟨e1, e2, _⟩ := ch_t h
  rw [e1, e2]
  unfold chF jnF at h
  simp only [Bool.and_eq_true, decide_eq_true_eq] at h
  exact ⟨sm_of h.1.1 h.1.2 (fun x hx => (jn_bd hs hd x hx).2.2.2), sm_of h.2.1 h.2.2 (fun x hx => (st_bd hd x hx).2.2.2)⟩
theorem rm_sm (S : Sx) (p : List ByteArray) : (rmX S p).Sm ∧ (rmY S p).Sm := by
 by_cases h : ocC S p ⟨#[]⟩ = 0
 ·obtain ⟨e1, e2, _⟩ := rm_t h
  have hs := stB_t (ocC_ok h).1
  rw [e1, e2]; exact ch_sm hs.w (dl_w hs (PtO.nil S))
 ·obtain ⟨e1, e2, _⟩ := rm_f h
  rw [e1, e2]; exact ⟨mt_sm, mt_sm⟩
theorem openPath {H : Type} {enc : TypeId × Value → H} {W : World} {r : Reach} {b0 base : Nat} {spare : Nat → Bool} {held : Bool} {v : Value} {d : DataW H} {q : List MemPlace}
  (hval : Value.okWide Tryz.prog W r b0 28 v) (h : DataW.Trod enc Tryz.prog W base spare held 28 v d q) :
  ∃ a p c, v = .slice a p.length c ∧ SSeg W a p ∧ PBig p := by
 obtain ⟨a0, len0, cap0, rfl⟩ := okWide_slice Tryz.underlying28 hval
 obtain ⟨fuel, hf⟩ := h
 obtain ⟨a, p, c, hcs, h1, h2⟩ := openStrs hf
 simp [Value.cells] at hcs
 obtain ⟨rfl, rfl, rfl⟩ := hcs
 exact ⟨_, p, _, rfl, h1, h2⟩
theorem PMk.lowC {w w' : World} {g n : Nat} (h : PMk w g n) (hb : Below w.heap.size w w') : PMk w' g n := by
 obtain ⟨cur, h1, h2⟩ := h
 exact ⟨cur, (hb.block g (Array.getElem?_eq_some_iff.1 h1).1).trans h1, h2⟩
structure GL (w6 wk : World) (vx : Value × Value) (bx lo hi g k ps : Nat) (S : Sx) (p : List ByteArray) (l1 l2 l3 : Nat) (ga gx : Option Addr) (gd : Nat) (ga' gx' : Option Addr) (gd' gb : Nat) (vb vb' : Value × Value) (X Y : Sx) : Prop where
 kk : Below w6.heap.size w6 wk
 xb : Bx2 wk bx vx.1 vx.2
 sn : SNw wk lo hi g k S
 st : SSeg wk (some ⟨ps, 0, none⟩) p
 pm : PMk wk ps p.length
 ox : SOw wk l1 l2 ga gx gd X
 oy : SOw wk l2 l3 ga' gx' gd' Y
 b1 : Bx2 wk gb vb.1 vb.2
 b2 : Bx2 wk (gb + 1) vb'.1 vb'.2
structure GM (w6 wk : World) (l1 l2 l3 : Nat) (ga gx : Option Addr) (gd : Nat) (ga' gx' : Option Addr) (gd' gb : Nat) (vb vb' : Value × Value) (X Y : Sx) : Prop where
 kk : Below w6.heap.size w6 wk
 ox : SOw wk l1 l2 ga gx gd X
 oy : SOw wk l2 l3 ga' gx' gd' Y
 b1 : Bx2 wk gb vb.1 vb.2
 b2 : Bx2 wk (gb + 1) vb'.1 vb'.2
section
variable {w6 wk w' : World} {vx : Value × Value} {bx lo hi g k ps : Nat} {S : Sx} {p : List ByteArray} {l1 l2 l3 : Nat} {ga gx : Option Addr} {gd : Nat} {ga' gx' : Option Addr} {gd' gb : Nat} {vb vb' : Value × Value} {X Y : Sx}
theorem GL.below (h : GL w6 wk vx bx lo hi g k ps S p l1 l2 l3 ga gx gd ga' gx' gd' gb vb vb' X Y) (hb : Below wk.heap.size wk w') : GL w6 w' vx bx lo hi g k ps S p l1 l2 l3 ga gx gd ga' gx' gd' gb vb vb' X Y :=
 ⟨h.kk.trans (hb.mono h.kk.size), h.xb.below hb h.xb.lt, h.sn.below hb, h.st.below hb, h.pm.lowC hb, h.ox.below hb, h.oy.below hb, h.b1.below hb h.b1.lt, h.b2.below hb h.b2.lt⟩
theorem GM.below (h : GM w6 wk l1 l2 l3 ga gx gd ga' gx' gd' gb vb vb' X Y) (hb : Below wk.heap.size wk w') : GM w6 w' l1 l2 l3 ga gx gd ga' gx' gd' gb vb vb' X Y :=
 ⟨h.kk.trans (hb.mono h.kk.size), h.ox.below hb, h.oy.below hb, h.b1.below hb h.b1.lt, h.b2.below hb h.b2.lt⟩
theorem GL.btw (h : GL w6 wk vx bx lo hi g k ps S p l1 l2 l3 ga gx gd ga' gx' gd' gb vb vb' X Y) (hb : Btw lo hi wk w') (h1 : w6.heap.size ≤ lo) (h2 : hi ≤ l1) (h3 : hi ≤ ps) (h4 : l3 ≤ gb) : GM w6 w' l1 l2 l3 ga gx gd ga' gx' gd' gb vb vb' X Y ∧ PMk w' ps p.length := by
 have e1 := h.ox.hl
 have e2 := h.oy.hl
 refine ⟨⟨hb.lowJ h.kk h1 h.kk.size, h.ox.same hb.size (fun q a1 a2 => hb.block q (Nat.lt_of_lt_of_le a2 e1.2) (.inr (by omega))), h.oy.same hb.size (fun q a1 a2 => hb.block q (Nat.lt_of_lt_of_le a2 e2.2) (.inr (by omega))), h.b1.btw hb (.inr (by omega)), h.b2.btw hb (.inr (by omega))⟩, ?_⟩
 obtain ⟨cur, c1, c2⟩ := h.pm
 exact ⟨cur, (hb.block ps (Array.getElem?_eq_some_iff.1 c1).1 (.inr h3)).trans c1, c2⟩
theorem GM.grown {q0 : Nat} (h : GM w6 wk l1 l2 l3 ga gx gd ga' gx' gd' gb vb vb' X Y) (hg : wk.grownBy w' (some q0)) (h1 : w6.heap.size ≤ q0) (h2 : q0 < l1) (h4 : l3 ≤ gb) : GM w6 w' l1 l2 l3 ga gx gd ga' gx' gd' gb vb vb' X Y := by
 have e1 := h.ox.hl
 have e2 := h.oy.hl
 exact ⟨h.kk.grown hg h.kk.size (fun k e => by injection e with e; omega), h.ox.same hg.size (fun q a1 a2 => hg.block q (Nat.lt_of_lt_of_le a2 e1.2) (fun e => by injection e with e; omega)), h.oy.same hg.size (fun q a1 a2 => hg.block q (Nat.lt_of_lt_of_le a2 e2.2) (fun e => by injection e with e; omega)), h.b1.gr hg (fun k e => by injection e with e; omega), h.b2.gr hg (fun k e => by injection e with e; omega)⟩
end
end Go.Proofs.YtcbcabhjododoaaGreat
