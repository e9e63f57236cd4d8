import Derived.Test.YtcbcabhjododoaaGreatFg06
import Derived.Test.YtcbcabhjododoaaGreatFg02
import Derived.Maps.Own
import Derived.Maps.OwnSet
import Derived.Maps.OwnOps
import Derived.Maps.AppendAt
import Derived.Maps.Views
set_option linter.unusedVariables false
set_option linter.unusedSimpArgs false
set_option maxRecDepth 100000
set_option maxHeartbeats 40000000
namespace Go.Proofs.YtcbcabhjododoaaGreat
open Go.ChangeShapes Go.WideShapes Go.ChangeAt Go.RowKit
theorem cmpStr (s t : ByteArray) (w : World) : Calls Tryz.prog 144 #[.string s, .string t] w fun e w' => e = .returned (.int .i64 (cmpS s t)) ∧ w' = w := by
 have nan : ∀ (s : ByteArray) (w : World), Calls Tryz.prog 155 #[.string s] w fun e w' => e = .returned (.bool false) ∧ w' = w := fun s w => by
  have e : (s.toList == s.toList) = true := by simp
  go_enter Tryz.func155, Tryz.ntmps155
  go_wp2_with fail
  go_ret
  exact ⟨rfl, rfl⟩
 by_cases hl : Op.bytesLess s.toList t.toList = true
 ·have HC : Hid (cmpS s t = -1) := hid (by simp [cmpS, ltS, hl])
  go_enter Tryz.func144, Tryz.ntmps144
  go_wp2_with (go_at_call 155; refine (nan _ _).mono ?_; rintro e w' ⟨rfl, rfl⟩)
  go_ret
  exact ⟨ret_i HC.out.symm, rfl⟩
 ·have hl : Op.bytesLess s.toList t.toList = false := by simpa using hl
  by_cases he : (s.toList == t.toList) = true
  ·have HC : Hid (cmpS s t = 0) := hid (by simp only [cmpS, ltS, eqS, hl, he]; simp)
   go_enter Tryz.func144, Tryz.ntmps144
   go_wp2_with (go_at_call 155; refine (nan _ _).mono ?_; rintro e w' ⟨rfl, rfl⟩)
   go_ret
   exact ⟨ret_i HC.out.symm, rfl⟩
  ·have he : (s.toList == t.toList) = false := by simpa using he
   have HC : Hid (cmpS s t = 1) := hid (by simp [cmpS, ltS, eqS, hl, he])
   go_enter Tryz.func144, Tryz.ntmps144
   go_wp2_with (go_at_call 155; refine (nan _ _).mono ?_; rintro e w' ⟨rfl, rfl⟩)
   go_ret
   exact ⟨ret_i HC.out.symm, rfl⟩
theorem drop_gS {p : List ByteArray} {k : Nat} (h : k < p.length) : p.drop k = gS p k :: p.drop (k + 1) := by
 rw [List.drop_eq_getElem_cons h]; simp [gS, List.getD, h]
theorem cmpP_one {p q : List ByteArray} {k : Nat} (h : k < p.length) (h' : q.length ≤ k) : cmpP (p.drop k) (q.drop k) = 1 := by
 rw [drop_gS h, List.drop_eq_nil_of_le h']; rfl
theorem cmpP_neg {p q : List ByteArray} {k : Nat} (h : p.length ≤ k) (h' : k < q.length) : cmpP (p.drop k) (q.drop k) = -1 := by
 rw [drop_gS h', List.drop_eq_nil_of_le h]; rfl
theorem cmpP_nil {p q : List ByteArray} {k : Nat} (h : p.length ≤ k) (h' : q.length ≤ k) : cmpP (p.drop k) (q.drop k) = 0 := by
 rw [List.drop_eq_nil_of_le h', List.drop_eq_nil_of_le h]; rfl
theorem cmpP_go {p q : List ByteArray} {k : Nat} (h : k < p.length) (h' : k < q.length) : cmpP (p.drop k) (q.drop k) = if cmpS (gS p k) (gS q k) = 0 then cmpP (p.drop (k + 1)) (q.drop (k + 1)) else cmpS (gS p k) (gS q k) := by
 rw [drop_gS h, drop_gS h']; rfl
theorem cmpImpl (p q : List ByteArray) (a b : Option Addr) (c d : Nat) (w : World) (hp : p.length ≤ 1048576) (hq : q.length ≤ 1048576) (h : SSeg w a p) (h' : SSeg w b q) :
  Calls Tryz.prog 125 #[.slice a p.length c, .slice b q.length d] w fun e w' => e = .returned (.int .i64 (cmpP p q)) ∧ w' = w := by
 go_enter Tryz.func125, Tryz.ntmps125
 go_wp2_with fail
 go_loop [11] (fun i => ∃ k : Nat, k ≤ p.length ∧ i = .int .i64 (k : Int) ∧ k ≤ q.length ∧ Hid (cmpP p q = cmpP (p.drop k) (q.drop k))) (fun i => p.length - (intOf i).toNat)
 case atStart => exact ⟨0, Nat.zero_le _, rfl, Nat.zero_le _, hid rfl⟩
 case round =>
  obtain ⟨k, hk, rfl, hkq, HE⟩ := hrel
  by_cases hlt : k < p.length
  ·rcases h with h | ⟨b1, o1, rfl, hb1, hc1⟩
   ·omega
   have x0 := hc1 k hlt
   have i1 : (0 : Int) ≤ (k : Int) := Int.natCast_nonneg _
   have i2 : (k : Int) < (p.length : Int) := by omega
   by_cases hlq : k < q.length
   ·rcases h' with h' | ⟨b2, o2, rfl, hb2, hc2⟩
    ·omega
    have y0 := hc2 k hlq
    have i3 : (k : Int) < (q.length : Int) := by omega
    have i4 : decide ((q.length : Int) ≤ (k : Int)) = false := by simp; omega
    have HG := hid (cmpP_go hlt hlq)
    obtain ⟨s, hs⟩ : ∃ s, gS p k = s := ⟨_, rfl⟩
    obtain ⟨t, ht⟩ : ∃ t, gS q k = t := ⟨_, rfl⟩
    rw [hs] at x0
    rw [ht] at y0
    have HG : Hid (cmpP p q = if cmpS s t = 0 then cmpP (p.drop (k + 1)) (q.drop (k + 1)) else cmpS s t) := hid (by rw [HE.out, HG.out, hs, ht])
    have HC := hid (cmpStr s t w)
    obtain ⟨x, hx⟩ : ∃ x, cmpS s t = x := ⟨_, rfl⟩
    rw [hx] at HC HG
    clear hc1 hc2 hs ht HE hx
    go_wp2_with fail
    refine HC.out.mono ?_
    rintro e w' ⟨rfl, rfl⟩
    by_cases h0 : x = 0
    ·subst h0
     have HG : Hid (cmpP p q = cmpP (p.drop (k + 1)) (q.drop (k + 1))) := hid (by rw [HG.out, if_pos rfl])
     go_wp2_with fail
     go_round
     case rel => exact ⟨k + 1, hlt, by go_num, hlq, HG⟩
     case measure => simp [intOf]; omega
    ·have HG : Hid (cmpP p q = x) := hid (by rw [HG.out, if_neg h0])
     have n0 : (x != 0) = true := by simpa using h0
     go_wp2_with fail
     go_ret
     exact ⟨ret_i HG.out.symm, rfl⟩
   ·have i4 : decide ((q.length : Int) ≤ (k : Int)) = true := by simp; omega
    have HG : Hid (cmpP p q = 1) := hid (by rw [HE.out]; exact cmpP_one hlt (by omega))
    clear hc1 HE
    go_wp2_with fail
    go_ret
    exact ⟨ret_i HG.out.symm, rfl⟩
  ·obtain rfl : k = p.length := by omega
   by_cases hlq : p.length < q.length
   ·have HG : Hid (cmpP p q = -1) := hid (by rw [HE.out]; exact cmpP_neg (Nat.le_refl _) hlq)
    have i4 : decide ((p.length : Int) < (q.length : Int)) = true := by simp; omega
    clear h h' HE
    go_wp2_with fail
    go_ret
    exact ⟨ret_i HG.out.symm, rfl⟩
   ·have HG : Hid (cmpP p q = 0) := hid (by rw [HE.out]; exact cmpP_nil (Nat.le_refl _) (by omega))
    have i4 : decide ((p.length : Int) < (q.length : Int)) = false := by simp; omega
    clear h h' HE
    go_wp2_with fail
    go_ret
    exact ⟨ret_i HG.out.symm, rfl⟩
def PthOk (p : List ByteArray) : Prop := 1 ≤ p.length ∧ p.length ≤ 8 ∧ ∀ i, i < p.length → 1 ≤ (gS p i).size ∧ (gS p i).size ≤ 40
noncomputable def yes (P : Prop) : Bool := @decide P (Classical.propDecidable P)
theorem yes_t {P : Prop} (h : P) : yes P = true := by unfold yes; exact @decide_eq_true _ (Classical.propDecidable P) h
theorem yes_f {P : Prop} (h : ¬ P) : yes P = false := by unfold yes; exact @decide_eq_false _ (Classical.propDecidable P) h
theorem yes_iff {P : Prop} : yes P = true ↔ P := ⟨fun h => by unfold yes at h; exact @of_decide_eq_true _ (Classical.propDecidable P) h, yes_t⟩
theorem ret_b {x y : Bool} (h : x = y) : Ending.returned (.bool x) = .returned (.bool y) := by rw [h]
theorem pathSpec (p : List ByteArray) (a : Option Addr) (c : Nat) (w : World) (hp : p.length ≤ 1048576) (h : SSeg w a p) :
  Calls Tryz.prog 24 #[.slice a p.length c] w fun e w' => e = .returned (.bool (yes (PthOk p))) ∧ w' = w := by
 go_enter Tryz.func24, Tryz.ntmps24
 go_wp2_with fail
 go_loop [3] (fun i => ∃ k : Nat, k ≤ p.length ∧ i = .int .i64 (k : Int) ∧ Hid (∀ j, j < k → 1 ≤ (gS p j).size ∧ (gS p j).size ≤ 40)) (fun i => p.length - (intOf i).toNat)
 case atStart => exact ⟨0, Nat.zero_le _, rfl, hid (fun j hj => by omega)⟩
 case round =>
  obtain ⟨k, hk, rfl, HE⟩ := hrel
  by_cases hlt : k < p.length
  ·rcases h with h | ⟨b1, o1, rfl, hb1, hc1⟩
   ·omega
   have x0 := hc1 k hlt
   have i1 : (0 : Int) ≤ (k : Int) := Int.natCast_nonneg _
   have i2 : (k : Int) < (p.length : Int) := by omega
   obtain ⟨s, hs⟩ : ∃ s, gS p k = s := ⟨_, rfl⟩
   rw [hs] at x0
   have HS := hid hs
   clear hc1 hs
   by_cases h1 : (s.size : Int) < 1
   ·have d1 : decide ((s.size : Int) < 1) = true := by simpa using h1
    have HG : Hid (yes (PthOk p) = false) := hid (yes_f (fun h => by have := (h.2.2 k hlt).1; rw [HS.out] at this; omega))
    go_wp2_with fail
    go_ret
    exact ⟨ret_b HG.out.symm, rfl⟩
   ·have d1 : decide ((s.size : Int) < 1) = false := by simpa using h1
    by_cases h2 : (40 : Int) < (s.size : Int)
    ·have d2 : decide ((40 : Int) < (s.size : Int)) = true := by simpa using h2
     have HG : Hid (yes (PthOk p) = false) := hid (yes_f (fun h => by have := (h.2.2 k hlt).2; rw [HS.out] at this; omega))
     go_wp2_with fail
     go_ret
     exact ⟨ret_b HG.out.symm, rfl⟩
    ·have d2 : decide ((40 : Int) < (s.size : Int)) = false := by simpa using h2
     have HG : Hid (∀ j, j < k + 1 → 1 ≤ (gS p j).size ∧ (gS p j).size ≤ 40) := hid (fun j hj => by
      by_cases e : j = k
      ·rw [e, HS.out]; omega
      ·exact HE.out j (by omega))
     go_wp2_with fail
     go_round
     case rel => exact ⟨k + 1, hlt, by go_num, HG⟩
     case measure => simp [intOf]; omega
  ·obtain rfl : k = p.length := by omega
   have HG : Hid (yes (PthOk p) = decide (1 ≤ p.length ∧ p.length ≤ 8)) := hid (by
    by_cases q : 1 ≤ p.length ∧ p.length ≤ 8
    ·rw [yes_t ⟨q.1, q.2, HE.out⟩, decide_eq_true q]
    ·rw [yes_f (fun h => q ⟨h.1, h.2.1⟩), decide_eq_false q])
   clear h HE
   by_cases h1 : (1 : Int) ≤ (p.length : Int)
   ·have d1 : decide ((1 : Int) ≤ (p.length : Int)) = true := by simpa using h1
    by_cases h2 : (p.length : Int) ≤ 8
    ·have d2 : decide ((p.length : Int) ≤ 8) = true := by simpa using h2
     have HG : Hid (yes (PthOk p) = true) := hid (by rw [HG.out]; exact decide_eq_true (by omega))
     go_wp2_with fail
     go_ret
     exact ⟨ret_b HG.out.symm, rfl⟩
    ·have d2 : decide ((p.length : Int) ≤ 8) = false := by simpa using h2
     have HG : Hid (yes (PthOk p) = false) := hid (by rw [HG.out]; exact decide_eq_false (by omega))
     go_wp2_with fail
     go_ret
     exact ⟨ret_b HG.out.symm, rfl⟩
   ·have d1 : decide ((1 : Int) ≤ (p.length : Int)) = false := by simpa using h1
    have HG : Hid (yes (PthOk p) = false) := hid (by rw [HG.out]; exact decide_eq_false (by omega))
    go_wp2_with fail
    go_ret
    exact ⟨ret_b HG.out.symm, rfl⟩
theorem pathImpl (p : List ByteArray) (a : Option Addr) (c : Nat) (w : World) (hp : p.length ≤ 1048576) (h : SSeg w a p) :
  Calls Tryz.prog 55 #[.slice a p.length c] w fun e w' => e = .returned (.bool (yes (PthOk p))) ∧ w' = w := by
 by_cases h1 : (p.length : Int) < 1
 ·have d1 : decide ((p.length : Int) < 1) = true := by simpa using h1
  have HG : Hid (yes (PthOk p) = false) := hid (yes_f (fun h => by have := h.1; omega))
  clear h
  go_enter Tryz.func55, Tryz.ntmps55
  go_wp2_with fail
  go_ret
  exact ⟨ret_b HG.out.symm, rfl⟩
 ·have d1 : decide ((p.length : Int) < 1) = false := by simpa using h1
  by_cases h2 : (8 : Int) < (p.length : Int)
  ·have d2 : decide ((8 : Int) < (p.length : Int)) = true := by simpa using h2
   have HG : Hid (yes (PthOk p) = false) := hid (yes_f (fun h => by have := h.2.1; omega))
   clear h
   go_enter Tryz.func55, Tryz.ntmps55
   go_wp2_with fail
   go_ret
   exact ⟨ret_b HG.out.symm, rfl⟩
  ·have d2 : decide ((8 : Int) < (p.length : Int)) = false := by simpa using h2
   go_enter Tryz.func55, Tryz.ntmps55
   go_wp2_with fail
   clear d1 d2
   go_loop [15] (fun i => ∃ k : Nat, k ≤ p.length ∧ i = .int .i64 (k : Int) ∧ Hid (∀ j, j < k → 1 ≤ (gS p j).size ∧ (gS p j).size ≤ 40)) (fun i => p.length - (intOf i).toNat)
   case atStart => exact ⟨0, Nat.zero_le _, rfl, hid (fun j hj => by omega)⟩
   case round =>
    obtain ⟨k, hk, rfl, HE⟩ := hrel
    by_cases hlt : k < p.length
    ·rcases h with h | ⟨b1, o1, rfl, hb1, hc1⟩
     ·omega
     have x0 := hc1 k hlt
     have i1 : (0 : Int) ≤ (k : Int) := Int.natCast_nonneg _
     have i2 : (k : Int) < (p.length : Int) := by omega
     obtain ⟨s, hs⟩ : ∃ s, gS p k = s := ⟨_, rfl⟩
     rw [hs] at x0
     have HS := hid hs
     clear hc1 hs
     by_cases h1 : (s.size : Int) < 1
     ·have d1 : decide ((s.size : Int) < 1) = true := by simpa using h1
      have HG : Hid (yes (PthOk p) = false) := hid (yes_f (fun h => by have := (h.2.2 k hlt).1; rw [HS.out] at this; omega))
      go_wp2_with fail
      go_ret
      exact ⟨ret_b HG.out.symm, rfl⟩
     ·have d1 : decide ((s.size : Int) < 1) = false := by simpa using h1
      by_cases h2 : (40 : Int) < (s.size : Int)
      ·have d2 : decide ((40 : Int) < (s.size : Int)) = true := by simpa using h2
       have HG : Hid (yes (PthOk p) = false) := hid (yes_f (fun h => by have := (h.2.2 k hlt).2; rw [HS.out] at this; omega))
       go_wp2_with fail
       go_ret
       exact ⟨ret_b HG.out.symm, rfl⟩
      ·have d2 : decide ((40 : Int) < (s.size : Int)) = false := by simpa using h2
       have HG : Hid (∀ j, j < k + 1 → 1 ≤ (gS p j).size ∧ (gS p j).size ≤ 40) := hid (fun j hj => by
        by_cases e : j = k
        ·rw [e, HS.out]; omega
        ·exact HE.out j (by omega))
       go_wp2_with fail
       go_round
       case rel => exact ⟨k + 1, hlt, by go_num, HG⟩
       case measure => simp [intOf]; omega
    ·obtain rfl : k = p.length := by omega
     have HG : Hid (yes (PthOk p) = true) := hid (yes_t ⟨by omega, by omega, HE.out⟩)
     clear h HE
     go_wp2_with fail
     go_ret
     exact ⟨ret_b HG.out.symm, rfl⟩
end Go.Proofs.YtcbcabhjododoaaGreat
namespace Go.Proofs.YtcbcabhjododoaaGreat
open Go.ChangeShapes Go.WideShapes Go.ChangeAt Go.RowKit Go.Maps
def rawR (v : Value) : Option (DataW Value × List MemPlace) := match v with
 | .slice a n c => some (.held (.slice a n c), [])
 | _ => none
theorem rawR_inv {v : Value} {d : DataW Value} {ps : List MemPlace} (h : rawR v = some (d, ps)) : d = .held v ∧ ∃ a n c, v = .slice a n c := by
 unfold rawR at h
 split at h
 ·simp at h; exact ⟨h.1.symm, _, _, _, rfl⟩
 ·cases h
theorem rawR_own {w : World} {B : Nat} {e : TypeId} {size : Nat} {v : Value} {n : Nat} {xs : List Value} (h : w.ownsRow B e size v n xs) : rawR v = some (.held v, []) := by
 rcases h.2 with ⟨rfl, _⟩ | ⟨g, cap, cur, rfl, _⟩ <;> rfl
def kI (r : Int) : Lit := .int .i64 r
def upd {α : Type} (G : Int → α) (r : Int) (v : α) (x : Int) : α := if x = r then v else G x
theorem upd_same {α : Type} (G : Int → α) (r : Int) (v : α) : upd G r v r = v := if_pos rfl
theorem upd_other {α : Type} (G : Int → α) {r x : Int} (v : α) (h : x ≠ r) : upd G r v x = G x := if_neg h
theorem kI_ne {r x : Int} (h : x ≠ r) : kI x ≠ kI r := fun e => h (by unfold kI at e; injection e)
def spanCells (l : List (Int × Int)) : List Value := l.flatMap fun p => [.int .i64 p.1, .int .i64 p.2]
theorem spanCells_append (l : List (Int × Int)) (p : Int × Int) : spanCells (l ++ [p]) = spanCells l ++ [.int .i64 p.1, .int .i64 p.2] := by simp [spanCells]
structure GrpAt (w : World) (bm n : Nat) (D : DataW Value) (G : Int → Value) (L : Int → List (Int × Int)) : Prop where
 own : w.ownsMap Tryz.prog 3 rawR bm n D
 at' : ∀ r, D.atKey (kI r) (.held (.slice none 0 0)) = .held (G r)
 has' : ∀ r, Maps.has D (kI r) = !(L r).isEmpty
 rows : ∀ r, w.ownsRow (bm + 1) 135 2 (G r) (L r).length (spanCells (L r))
 apart : ∀ r r' g, (G r).ownBlock = some g → (G r').ownBlock = some g → r = r'
theorem GrpAt.below {w w1 : World} {bm n : Nat} {D : DataW Value} {G : Int → Value} {L : Int → List (Int × Int)} (h : GrpAt w bm n D G L) (hb : Below w.heap.size w w1) : GrpAt w1 bm n D G L :=
 ⟨h.own.kept ⟨hb.os, hb.tape, hb.output, hb.size, fun k hk _ => hb.block k hk⟩ (by simp : some bm ≠ none), h.at', h.has', fun r => owns_below (h.rows r) hb (fun k hk => ((h.rows r).lt k hk).2), h.apart⟩
theorem GrpAt.step {w w1 w2 w3 : World} {bm n : Nat} {D : DataW Value} {G : Int → Value} {L : Int → List (Int × Int)} {v' : Value} {r f t : Int} (h : GrpAt w bm n D G L)
  (hb : Below w.heap.size w w1) (hown : w2.ownsRow (bm + 1) 135 2 v' ((L r).length + 1) (spanCells (L r) ++ [.int .i64 f, .int .i64 t]))
  (hgr : w1.grownBy w2 (G r).ownBlock) (hloc : v'.ownBlock = (G r).ownBlock ∨ v'.ownBlock = some w1.heap.size)
  (hD : w3.ownsMap Tryz.prog 3 rawR bm (n + 1) (D.put (kI r) (.held v'))) (hgr3 : w2.grownBy w3 (some bm)) :
  GrpAt w3 bm (n + 1) (D.put (kI r) (.held v')) (upd G r v') (upd L r (L r ++ [(f, t)])) := by
 have h1 := h.below hb
 have nb : ∀ (w : World) (v : Value) (m : Nat) (xs : List Value), w.ownsRow (bm + 1) 135 2 v m xs → v.ownBlock = none ∨ v.ownBlock ≠ some bm := by
  intro w v m xs ho
  cases e : v.ownBlock with
  | none => exact .inl rfl
  | some g => exact .inr (fun e2 => by have := (ho.lt g e).1; injection e2 with e2; omega)
 refine ⟨hD, fun x => ?_, fun x => ?_, fun x => ?_, ?_⟩
 ·by_cases e : x = r
  ·subst e; rw [upd_same, atKey_put_same h.own.isMap (show WideAt.IsKeyLit (kI x) from trivial)]
  ·rw [upd_other G v' e, atKey_put_other (kI_ne e)]; exact h.at' x
 ·by_cases e : x = r
  ·subst e; rw [upd_same, has_put_same h.own.isMap (show WideAt.IsKeyLit (kI x) from trivial)]; simp
  ·rw [upd_other L _ e, has_put_other (kI_ne e)]; exact h.has' x
 ·by_cases e : x = r
  ·subst e
   rw [upd_same, upd_same, spanCells_append, List.length_append]
   exact hown.kept hgr3 (nb _ _ _ _ hown)
  ·rw [upd_other G v' e, upd_other L _ e]
   have hx := h1.rows x
   have hk : (G x).ownBlock = none ∨ (G x).ownBlock ≠ (G r).ownBlock := by
    cases e1 : (G x).ownBlock with
    | none => exact .inl rfl
    | some g => exact .inr (fun e2 => e (h.apart x r g e1 e2.symm))
   have h2 := hx.kept hgr hk
   exact h2.kept hgr3 (nb _ _ _ _ h2)
 ·intro x y g hx hy
  have key : ∀ z, z ≠ r → ∀ g, (G z).ownBlock = some g → v'.ownBlock = some g → False := by
   intro z hz g h1' h2'
   rcases hloc with hl | hl
   ·exact hz (h.apart z r g h1' (hl ▸ h2'))
   ·rw [hl] at h2'
    have a1 := ((h.rows z).lt g h1').2
    have a2 := hb.size
    injection h2' with h2'
    omega
  by_cases ex : x = r
  ·subst ex
   rw [upd_same] at hx
   by_cases ey : y = x
   ·exact ey.symm
   ·rw [upd_other G v' ey] at hy; exact (key y ey g hy hx).elim
  ·rw [upd_other G v' ex] at hx
   by_cases ey : y = r
   ·subst ey; rw [upd_same] at hy; exact (key x ex g hx hy).elim
   ·rw [upd_other G v' ey] at hy; exact h.apart x y g hx hy
def Lk (R F T : Nat → Int) : Nat → Int → List (Int × Int)
 | 0 => fun _ => []
 | k + 1 => upd (Lk R F T k) (R k) (Lk R F T k (R k) ++ [(F k, T k)])
theorem Lk_len (R F T : Nat → Int) (k : Nat) : ∀ r, (Lk R F T k r).length ≤ k := by
 induction k with
 | zero => intro r; simp [Lk]
 | succ k ih =>
  intro r
  by_cases e : r = R k
  ·subst e; simp only [Lk]; rw [upd_same]; have := ih (R k); simp; omega
  ·simp only [Lk]; rw [upd_other _ _ e]; have := ih r; omega
theorem zeroSpans (w : World) : (zeroValue 132).run Tryz.prog w = .ok (.slice none 0 0) w := by kernel_rfl
theorem wfI {r : Int} (h0 : -9223372036854775808 ≤ r) (h1 : r ≤ 9223372036854775807) : (Lit.int .i64 r).wf = true := by
 have e0 : IntKind.i64.min = -9223372036854775808 := by decide
 have e1 : IntKind.i64.max = 9223372036854775807 := by decide
 simp only [Lit.wf, e0, e1, Bool.and_eq_true, decide_eq_true_iff]
 exact ⟨h0, h1⟩
theorem GrpAt.look {w : World} {bm n : Nat} {D : DataW Value} {G : Int → Value} {L : Int → List (Int × Int)} (h : GrpAt w bm n D G L) (r : Int) (hr : (Lit.int .i64 r).wf = true) :
  (Instr.lookup 66 (.map (some bm)) (.int .i64 r) false).run Tryz.prog w = .ok (G r) w := by
 obtain ⟨v, ps, hrun, hv⟩ := h.own.lookup (int_keyed Tryz.underlying3) Tryz.underlying66 (zeroSpans w) (zd := .held (.slice none 0 0)) (zp := []) rfl (keyOf_int_mk Tryz.underlying3 hr)
 have := h.at' r
 obtain ⟨hd, _⟩ := rawR_inv hv
 unfold kI at this
 rw [this] at hd
 have e : v = G r := by injection hd with hd; exact hd.symm
 rw [hrun, e]
end Go.Proofs.YtcbcabhjododoaaGreat
