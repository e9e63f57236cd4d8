import Derived.Test.YtdenbicnckkdfaaGreatMg01
import Derived.Deep.Slices
import Derived.Deep.SlicePairs
import Derived.Deep.Strs
import Derived.Lib.SmallJoins
import Derived.Test.YtdenbicnckkdfaaGreatMg03
import Derived.Maps.Own
import Derived.Maps.OwnSet
import Derived.Maps.OwnOps
import Derived.Maps.AppendAt
import Derived.Maps.Views
namespace Go.Proofs.YtdenbicnckkdfaaGreat
open Go.ChangeShapes Go.WideShapes Go.ChangeAt Go.RowKit Go.Deep
set_option linter.unusedVariables false
set_option linter.unusedSimpArgs false

theorem array1 {α : Type} {cs : Array α} (h : cs.size = 1) : ∃ c0, cs = #[c0] := by
  obtain ⟨l⟩ := cs
  match l, h with
  | [c0], _ => exact ⟨c0, rfl⟩

theorem list3 {α : Type} {l : List α} (h : l.length = 3) : ∃ x y z, l = [x, y, z] := by
  match l, h with
  | [x, y, z], _ => exact ⟨x, y, z, rfl⟩

set_option maxRecDepth 100000 in
theorem openCtx {H : Type} {enc : TypeId × Value → H} {W : World} {r : Reach} {b0 base : Nat} {spare : Nat → Bool} {held : Bool} {v : Value} {d : DataW H} {p : List MemPlace}
    (hval : Value.okWide Tryz.prog W r b0 25 v) (h : DataW.Trod enc Tryz.prog W base spare held 25 v d p) :
    ∃ a n c R F T, v = .agg #[.slice a n c] ∧ n ≤ 9223372036854775807 ∧ RSeg W a n R F T ∧ I64 R ∧ I64 F ∧ I64 T := by
  obtain ⟨cs, rfl, hsz⟩ := okWide_struct Tryz.underlying25 hval
  obtain ⟨v0, rfl⟩ := array1 (hsz.trans (show Tryz.prog.cellsOf 25 = 1 by kernel_rfl))
  obtain ⟨fuel, hf⟩ := h
  obtain ⟨y0, n, _, _, h0⟩ := trod_struct1 Tryz.underlying25 hf
  have e1 : Tryz.prog.cellsOf 23 = 1 := by kernel_rfl
  have e3 : Tryz.prog.cellsOf 146 = 3 := by kernel_rfl
  have ei : Tryz.prog.cellsOf 3 = 1 := by kernel_rfl
  simp [Value.cells, e1] at h0
  rcases open_slice Tryz.underlying23 h0 with ⟨hcs, _⟩ | ⟨a, len, cap, m, k, D, Pl, hcs, hb, hl, hm, hmm, _, hx⟩
  · simp at hcs
    subst hcs
    exact ⟨none, 0, 0, fun _ => 0, fun _ => 0, fun _ => 0, rfl, by omega, .inl rfl, fun _ => by simp, fun _ => by simp, fun _ => by simp⟩
  · simp at hcs
    subst hcs
    have hlm : len ≤ m := by rw [hmm]; split <;> omega
    have each : ∀ i, i < m → ∃ q : Int × Int × Int, W.cell? (a.add (i * 3)) = some (.int .i64 q.1) ∧ W.cell? (a.add (i * 3 + 1)) = some (.int .i64 q.2.1) ∧ W.cell? (a.add (i * 3 + 2)) = some (.int .i64 q.2.2) ∧
        (-9223372036854775808 ≤ q.1 ∧ q.1 ≤ 9223372036854775807) ∧ (-9223372036854775808 ≤ q.2.1 ∧ q.2.1 ≤ 9223372036854775807) ∧ (-9223372036854775808 ≤ q.2.2 ∧ q.2.2 ≤ 9223372036854775807) := by
      intro i hi
      obtain ⟨cs', h1, h2⟩ := hx i hi
      rw [e3] at h1
      obtain ⟨_, hlen, hcell⟩ := World.cells?_some h1
      obtain ⟨x0, x1, x2, rfl⟩ := list3 hlen
      obtain ⟨y0, y1, y2, k', _, _, g0, g1, g2⟩ := trod_struct3 Tryz.underlying146 h2
      simp [ei] at g0 g1 g2
      obtain ⟨z0, q0, _, wf0⟩ := DataW.trod_int Tryz.underlying3 g0
      obtain ⟨z1, q1, _, wf1⟩ := DataW.trod_int Tryz.underlying3 g1
      obtain ⟨z2, q2, _, wf2⟩ := DataW.trod_int Tryz.underlying3 g2
      simp at q0 q1 q2
      subst q0 q1 q2
      have c0 := hcell 0 (by omega)
      have c1 := hcell 1 (by omega)
      have c2 := hcell 2 (by omega)
      rw [add_add] at c0 c1 c2
      exact ⟨(z0, z1, z2), by simpa using c0, by simpa using c1, by simpa using c2, bounds_i64 wf0, bounds_i64 wf1, bounds_i64 wf2⟩
    obtain ⟨q, hq⟩ := choose_lt each
    refine ⟨some a, len, cap, fun i => if i < m then (q i).1 else 0, fun i => if i < m then (q i).2.1 else 0, fun i => if i < m then (q i).2.2 else 0, rfl, by unfold maxLen at hm; omega, ?_, ?_, ?_, ?_⟩
    · by_cases h0 : len = 0
      · exact .inl h0
      · have c0 := (hq 0 (by omega)).1
        obtain ⟨b, off, sp⟩ := a
        have hsp : sp = none := by simpa [Addr.add] using World.cell?_spot c0
        subst hsp
        have hadd : ∀ j, (⟨b, off, none⟩ : Addr).add j = ⟨b, off + j, none⟩ := by
          intro j
          by_cases hj : j = 0
          · subst hj; rfl
          · simp [Addr.add, hj]
        refine .inr ⟨b, off, rfl, block_lt_of_cell c0, fun i hi => ?_⟩
        have hi' : i < m := by omega
        obtain ⟨c0, c1, c2, _⟩ := hq i hi'
        rw [hadd] at c0 c1 c2
        simp only [hi', if_true]
        exact ⟨c0, by simpa [Nat.add_assoc] using c1, by simpa [Nat.add_assoc] using c2⟩
    · intro i; by_cases hi : i < m
      · simp only [hi, if_true]; exact (hq i hi).2.2.2.1
      · simp only [hi, if_false]; omega
    · intro i; by_cases hi : i < m
      · simp only [hi, if_true]; exact (hq i hi).2.2.2.2.1
      · simp only [hi, if_false]; omega
    · intro i; by_cases hi : i < m
      · simp only [hi, if_true]; exact (hq i hi).2.2.2.2.2
      · simp only [hi, if_false]; omega
end Go.Proofs.YtdenbicnckkdfaaGreat

namespace Go.Proofs.YtdenbicnckkdfaaGreat
open Go.ChangeShapes Go.WideShapes Go.ChangeAt Go.RowKit Go.Maps
set_option linter.unusedVariables false
set_option linter.unusedSimpArgs false

def rawR (v : Value) : Option (DataW Value × List MemPlace) := match v with
  | .slice a n c => some (.held (.slice a n c), [])
  | _ => none
theorem rawR_inv {v : Value} {d : DataW Value} {ps : List MemPlace} (h : rawR v = some (d, ps)) : d = .held v ∧ ∃ a n c, v = .slice a n c := by
  unfold rawR at h
  split at h
  · simp at h; exact ⟨h.1.symm, _, _, _, rfl⟩
  · cases h
theorem rawR_own {w : World} {B : Nat} {e : TypeId} {size : Nat} {v : Value} {n : Nat} {xs : List Value} (h : w.ownsRow B e size v n xs) : rawR v = some (.held v, []) := by
  rcases h.2 with ⟨rfl, _⟩ | ⟨g, cap, cur, rfl, _⟩ <;> rfl
def kI (r : Int) : Lit := .int .i64 r
def upd {α : Type} (G : Int → α) (r : Int) (v : α) (x : Int) : α := if x = r then v else G x
theorem upd_same {α : Type} (G : Int → α) (r : Int) (v : α) : upd G r v r = v := if_pos rfl
theorem upd_other {α : Type} (G : Int → α) {r x : Int} (v : α) (h : x ≠ r) : upd G r v x = G x := if_neg h
theorem kI_ne {r x : Int} (h : x ≠ r) : kI x ≠ kI r := fun e => h (by unfold kI at e; injection e)

def spanCells (l : List (Int × Int)) : List Value := l.flatMap fun p => [.int .i64 p.1, .int .i64 p.2]
theorem spanCells_append (l : List (Int × Int)) (p : Int × Int) : spanCells (l ++ [p]) = spanCells l ++ [.int .i64 p.1, .int .i64 p.2] := by simp [spanCells]

structure GrpAt (w : World) (bm n : Nat) (D : DataW Value) (G : Int → Value) (L : Int → List (Int × Int)) : Prop where
  own : w.ownsMap Tryz.prog 3 rawR bm n D
  at' : ∀ r, D.atKey (kI r) (.held (.slice none 0 0)) = .held (G r)
  has' : ∀ r, Maps.has D (kI r) = !(L r).isEmpty
  rows : ∀ r, w.ownsRow (bm + 1) 164 2 (G r) (L r).length (spanCells (L r))
  apart : ∀ r r' g, (G r).ownBlock = some g → (G r').ownBlock = some g → r = r'

theorem GrpAt.below {w w1 : World} {bm n : Nat} {D : DataW Value} {G : Int → Value} {L : Int → List (Int × Int)} (h : GrpAt w bm n D G L) (hb : Below w.heap.size w w1) : GrpAt w1 bm n D G L :=
  ⟨h.own.kept ⟨hb.os, hb.tape, hb.output, hb.size, fun k hk _ => hb.block k hk⟩ (by simp : some bm ≠ none), h.at', h.has', fun r => owns_below (h.rows r) hb (fun k hk => ((h.rows r).lt k hk).2), h.apart⟩

theorem GrpAt.step {w w1 w2 w3 : World} {bm n : Nat} {D : DataW Value} {G : Int → Value} {L : Int → List (Int × Int)} {v' : Value} {r f t : Int} (h : GrpAt w bm n D G L)
    (hb : Below w.heap.size w w1) (hown : w2.ownsRow (bm + 1) 164 2 v' ((L r).length + 1) (spanCells (L r) ++ [.int .i64 f, .int .i64 t]))
    (hgr : w1.grownBy w2 (G r).ownBlock) (hloc : v'.ownBlock = (G r).ownBlock ∨ v'.ownBlock = some w1.heap.size)
    (hD : w3.ownsMap Tryz.prog 3 rawR bm (n + 1) (D.put (kI r) (.held v'))) (hgr3 : w2.grownBy w3 (some bm)) :
    GrpAt w3 bm (n + 1) (D.put (kI r) (.held v')) (upd G r v') (upd L r (L r ++ [(f, t)])) := by
  have h1 := h.below hb
  have nb : ∀ (w : World) (v : Value) (m : Nat) (xs : List Value), w.ownsRow (bm + 1) 164 2 v m xs → v.ownBlock = none ∨ v.ownBlock ≠ some bm := by
    intro w v m xs ho
    cases e : v.ownBlock with
    | none => exact .inl rfl
    | some g => exact .inr (fun e2 => by have := (ho.lt g e).1; injection e2 with e2; omega)
  refine ⟨hD, fun x => ?_, fun x => ?_, fun x => ?_, ?_⟩
  · by_cases e : x = r
    · subst e; rw [upd_same, atKey_put_same h.own.isMap (show WideAt.IsKeyLit (kI x) from trivial)]
    · rw [upd_other G v' e, atKey_put_other (kI_ne e)]; exact h.at' x
  · by_cases e : x = r
    · subst e; rw [upd_same, has_put_same h.own.isMap (show WideAt.IsKeyLit (kI x) from trivial)]; simp
    · rw [upd_other L _ e, has_put_other (kI_ne e)]; exact h.has' x
  · by_cases e : x = r
    · subst e
      rw [upd_same, upd_same, spanCells_append, List.length_append]
      exact hown.kept hgr3 (nb _ _ _ _ hown)
    · rw [upd_other G v' e, upd_other L _ e]
      have hx := h1.rows x
      have hk : (G x).ownBlock = none ∨ (G x).ownBlock ≠ (G r).ownBlock := by
        cases e1 : (G x).ownBlock with
        | none => exact .inl rfl
        | some g => exact .inr (fun e2 => e (h.apart x r g e1 e2.symm))
      have h2 := hx.kept hgr hk
      exact h2.kept hgr3 (nb _ _ _ _ h2)
  · intro x y g hx hy
    have key : ∀ z, z ≠ r → ∀ g, (G z).ownBlock = some g → v'.ownBlock = some g → False := by
      intro z hz g h1' h2'
      rcases hloc with hl | hl
      · exact hz (h.apart z r g h1' (hl ▸ h2'))
      · rw [hl] at h2'
        have a1 := ((h.rows z).lt g h1').2
        have a2 := hb.size
        injection h2' with h2'
        omega
    by_cases ex : x = r
    · subst ex
      rw [upd_same] at hx
      by_cases ey : y = x
      · exact ey.symm
      · rw [upd_other G v' ey] at hy; exact (key y ey g hy hx).elim
    · rw [upd_other G v' ex] at hx
      by_cases ey : y = r
      · subst ey; rw [upd_same] at hy; exact (key x ex g hx hy).elim
      · rw [upd_other G v' ey] at hy; exact h.apart x y g hx hy

def Lk (R F T : Nat → Int) : Nat → Int → List (Int × Int)
  | 0 => fun _ => []
  | k + 1 => upd (Lk R F T k) (R k) (Lk R F T k (R k) ++ [(F k, T k)])
theorem Lk_len (R F T : Nat → Int) (k : Nat) : ∀ r, (Lk R F T k r).length ≤ k := by
  induction k with
  | zero => intro r; simp [Lk]
  | succ k ih =>
    intro r
    by_cases e : r = R k
    · subst e; simp only [Lk]; rw [upd_same]; have := ih (R k); simp; omega
    · simp only [Lk]; rw [upd_other _ _ e]; have := ih r; omega

theorem zeroSpans (w : World) : (zeroValue 133).run Tryz.prog w = .ok (.slice none 0 0) w := by kernel_rfl

theorem wfI {r : Int} (h0 : -9223372036854775808 ≤ r) (h1 : r ≤ 9223372036854775807) : (Lit.int .i64 r).wf = true := by
  have e0 : IntKind.i64.min = -9223372036854775808 := by decide
  have e1 : IntKind.i64.max = 9223372036854775807 := by decide
  simp only [Lit.wf, e0, e1, Bool.and_eq_true, decide_eq_true_iff]
  exact ⟨h0, h1⟩

set_option maxRecDepth 100000 in
theorem GrpAt.look {w : World} {bm n : Nat} {D : DataW Value} {G : Int → Value} {L : Int → List (Int × Int)} (h : GrpAt w bm n D G L) (r : Int) (hr : (Lit.int .i64 r).wf = true) :
    (Instr.lookup 84 (.map (some bm)) (.int .i64 r) false).run Tryz.prog w = .ok (G r) w := by
  obtain ⟨v, ps, hrun, hv⟩ := h.own.lookup (int_keyed Tryz.underlying3) Tryz.underlying84 (zeroSpans w) (zd := .held (.slice none 0 0)) (zp := []) rfl (keyOf_int_mk Tryz.underlying3 hr)
  have := h.at' r
  obtain ⟨hd, _⟩ := rawR_inv hv
  unfold kI at this
  rw [this] at hd
  have e : v = G r := by injection hd with hd; exact hd.symm
  rw [hrun, e]
end Go.Proofs.YtdenbicnckkdfaaGreat
