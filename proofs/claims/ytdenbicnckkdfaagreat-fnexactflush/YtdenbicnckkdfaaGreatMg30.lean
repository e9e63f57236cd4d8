import Derived.Test.YtdenbicnckkdfaaGreatMg29
import Derived.Test.YtdenbicnckkdfaaGreatMg22
import Derived.Test.YtdenbicnckkdfaaGreatMg03
import Derived.Test.YtdenbicnckkdfaaGreatMg21
import Derived.Lib.SlicesCompact
namespace Go.Proofs.YtdenbicnckkdfaaGreat
open Go.ChangeShapes Go.WideShapes Go.ChangeAt Go.RowKit Go.Maps Go.Sort
set_option linter.unusedVariables false
set_option linter.unusedSimpArgs false

def putZ (R F T : Nat → Int) (n : Nat) : List Int := if ctxB R F T n then putB (Lk R F T n) else []
theorem putZ_len (R F T : Nat → Int) (n : Nat) : (putZ R F T n).length ≤ 1000000 := by
  unfold putZ
  split
  · rename_i h
    have hok := ctxB_iff.1 h
    rw [putB_eq]
    have h1 := (uvF_len 9 (KS (Lk R F T n) 8).length).1
    have h2 := bodyF_len (L := Lk R F T n) (fun r => Nat.le_trans (Lk_len R F T n r) hok.2) 8
    simp only [List.length_append]; omega
  · simp

theorem specPutA (a : Option Addr) (n c : Nat) (R F T : Nat → Int) (w : World) (hn : n ≤ 1048576) (h : RSeg w a n R F T) :
    Calls Tryz.prog 63 #[.agg #[.slice a n c]] w fun e w' => ∃ v, e = .returned (.tuple #[v, .bool (ctxB R F T n)]) ∧ Own w' w.heap.size v (putZ R F T n) ∧ Below w.heap.size w w' := by
  by_cases hok : ctxB R F T n = true
  · have := specPut a n c R F T w hn h hok
    unfold putZ; rw [hok]; exact this
  · have hok : ctxB R F T n = false := by simpa using hok
    have HE : Hid (putZ R F T n = []) := by show _ = _; unfold putZ; rw [hok]; rfl
    have B0 : Below w.heap.size w (w.alloc (.cells #[.slice a n c] 34)) := (Below.refl _ _).alloc (Nat.le_refl _) _
    rw [hok]
    go_enter Tryz.func63, Tryz.ntmps63
    go_wp2_with fail
    refine (specOk a n c R F T _ hn (h.below B0)).mono ?_
    rintro e w1 ⟨rfl, b1⟩
    rw [hok]
    have HB1 := hid (keepS B0 b1)
    have z1 := HB1.out.size
    clear b1 B0 hok h
    go_wp2_with fail
    go_ret2
    refine ⟨_, rfl, ?_, HB1.out.alloc z1 _⟩
    rw [HE.out]
    have := World.ownsRow_lit (base := w.heap.size) (e := 5) (size := 1) w1 #[] 0 z1 (by unfold maxLen; omega) rfl
    simpa [Own] using this

set_option maxHeartbeats 400000 in
theorem eqB2 (a a' : Option Addr) (n c c' : Nat) (f : Nat → Int) (w : World) (hn : n ≤ 1000000000) (h : Seg w a n f) (h' : Seg w a' n f) :
    Calls Tryz.prog 26 #[.slice a n c, .slice a' n c'] w fun e w' => e = .returned (.bool true) ∧ Below w.heap.size w w' := by
  rcases h with h | ⟨b, off, rfl, hb, hc⟩
  · subst h
    go_enter Tryz.func26, Tryz.ntmps26
    go_wp2
    refine wp_loop_rounds 1 ?_; rw [rounds_succ]; go_wp2
    go_ret
    exact ⟨rfl, Below.refl _ _⟩
  · rcases h' with h' | ⟨b', off', rfl, hb', hc'⟩
    · subst h'
      go_enter Tryz.func26, Tryz.ntmps26
      go_wp2
      refine wp_loop_rounds 1 ?_; rw [rounds_succ]; go_wp2
      go_ret
      exact ⟨rfl, Below.refl _ _⟩
    · go_enter Tryz.func26, Tryz.ntmps26
      go_wp2
      go_loopw [5] (fun i wr => ∃ k : Nat, k ≤ n ∧ i = .int .i64 k ∧ Below w.heap.size w wr) (fun i _ => n - (intOf i).toNat)
      case atStart => exact ⟨0, Nat.zero_le _, rfl, Below.refl _ _⟩
      case round =>
        obtain ⟨k, hk, rfl, hbel⟩ := hrel
        by_cases hlt : k < n
        · have hck : wr.cell? ⟨b, off + k, none⟩ = some (.int .u8 (f k)) := (hbel.cell (p := ⟨b, off + k, none⟩) hb).trans (hc k hlt)
          have hck' : wr.cell? ⟨b', off' + k, none⟩ = some (.int .u8 (f k)) := (hbel.cell (p := ⟨b', off' + k, none⟩) hb').trans (hc' k hlt)
          go_wp2
          go_region
          all_goals (try go_wp2)
          go_roundw
          case rel => exact ⟨k + 1, hlt, by go_num, hbel.drew⟩
          case measure => simp [intOf]; omega
        · obtain rfl : k = n := by omega
          go_wp2
          go_ret
          exact ⟨rfl, hbel⟩

theorem Own.any {w : World} {B : Nat} {v : Value} {zs : List Int} (h : Own w B v zs) : ∃ a cap, v = .slice a zs.length cap ∧ Seg w a zs.length (fun i => zs.getD i 0) := by
  by_cases hz : zs = []
  · subst hz
    obtain ⟨_, h2⟩ := h
    rcases h2 with ⟨rfl, _⟩ | ⟨g, cap, cur, rfl, _⟩
    · exact ⟨none, 0, rfl, .inl rfl⟩
    · exact ⟨_, cap, rfl, .inl rfl⟩
  · obtain ⟨g, cap, rfl, _, _, _, _, _, s⟩ := h.shape hz
    exact ⟨_, cap, rfl, s⟩

theorem eqOwn {w : World} {B B' : Nat} {v v' : Value} {zs : List Int} (h : Own w B v zs) (h' : Own w B' v' zs) (hl : zs.length ≤ 1000000000) :
    Calls Tryz.prog 26 #[v, v'] w fun e w' => e = .returned (.bool true) ∧ Below w.heap.size w w' := by
  obtain ⟨a, cap, rfl, s⟩ := h.any
  obtain ⟨a', cap', rfl, s'⟩ := h'.any
  exact eqB2 a a' zs.length cap cap' _ w hl s s'

set_option maxHeartbeats 400000 in
theorem markB0 (a : Option Addr) (cap k0 : Nat) (w : World) :
    Calls Tryz.prog 28 #[.slice a 0 cap, .int .i64 (k0 : Int)] w fun e w' => e = .returned (.int .i64 (k0 : Int)) ∧ w' = w := by
  go_enter Tryz.func28, Tryz.ntmps28
  go_wp2
  refine wp_loop_rounds 1 ?_; rw [rounds_succ]; go_wp2
  go_ret
  exact ⟨rfl, rfl⟩

theorem markOwn {w : World} {B : Nat} {v : Value} {zs : List Int} (h : Own w B v zs) (hl : zs.length ≤ 1000000000) (k0 : Nat) (hk0 : k0 ≤ 1000000) :
    Calls Tryz.prog 28 #[v, .int .i64 (k0 : Int)] w fun e w' => e = .returned (.int .i64 ((k0 + zs.length : Nat) : Int)) ∧ Below B w w' ∧ w'.heap.size = w.heap.size ∧ (∃ a cap, v = .slice a zs.length cap ∧ Seg w' a zs.length (mk8 k0)) := by
  by_cases hz : zs = []
  · subst hz
    obtain ⟨a, cap, rfl, s⟩ := h.any
    refine (markB0 a cap k0 w).mono ?_
    rintro e w' ⟨rfl, rfl⟩
    exact ⟨by simp, Below.refl _ _, rfl, a, cap, rfl, .inl rfl⟩
  · obtain ⟨g, cap, rfl, _, _, _, _, _, s⟩ := h.shape hz
    refine (markB B g zs.length cap k0 _ w (by omega) (by omega) h).mono ?_
    rintro e w' ⟨rfl, b, z, s, o⟩
    exact ⟨rfl, b, z, _, cap, rfl, s⟩

theorem grown_of {w w' : World} {B g : Nat} (hb : Below B w w') (hs : w.heap.size ≤ w'.heap.size) (h : ∀ b, b < w.heap.size → b ≠ g → w'.heap[b]? = w.heap[b]?) : w.grownBy w' (some g) :=
  ⟨hb.os, hb.tape, hb.output, hs, fun k hk hne => h k hk (fun e => hne (by rw [e]))⟩

theorem Own.gr {w w' : World} {B : Nat} {v : Value} {zs : List Int} {row : Option Nat} (h : Own w B v zs) (hg : w.grownBy w' row) (hne : ∀ g, v.ownBlock = Option.some g → Option.some g ≠ row) : Own w' B v zs :=
  World.ownsRow.kept h hg (by
    cases e : v.ownBlock with
    | none => exact .inl rfl
    | some g => exact .inr (hne g e))
end Go.Proofs.YtdenbicnckkdfaaGreat

namespace Go.Proofs.YtdenbicnckkdfaaGreat
open Go.ChangeShapes Go.WideShapes Go.ChangeAt Go.RowKit Go.Maps Go.Sort Go.Lib Go.Shelf
set_option linter.unusedVariables false
set_option linter.unusedSimpArgs false

def OnceOf (vs ts : List ByteArray) : Prop := ts.Pairwise (fun x y => cmpS x y < 0) ∧ ∀ s, s ∈ ts ↔ s ∈ vs
theorem OnceOf.uniq {vs us ts rs : List ByteArray} (h : OnceOf vs ts) (h' : OnceOf us rs) (e : ∀ s, s ∈ vs ↔ s ∈ us) : ts = rs :=
  CmpT.str.uniq h.1 h'.1 fun s => by rw [h.2, h'.2, e]

noncomputable def rV (l : List Lf) (p : List ByteArray) : Nat → List ByteArray
  | 0 => []
  | k + 1 => if yes ((gL l k).fl = false ∧ (gL l k).p = p) = true then rV l p k ++ [(gL l k).v] else rV l p k
theorem rV_len (l : List Lf) (p : List ByteArray) : ∀ k, (rV l p k).length ≤ k
  | 0 => by simp [rV]
  | k + 1 => by have := rV_len l p k; simp only [rV]; split <;> simp <;> omega
theorem rV_mem {l : List Lf} {p : List ByteArray} {s : ByteArray} : ∀ {k : Nat}, s ∈ rV l p k ↔ ∃ j, j < k ∧ (gL l j).fl = false ∧ (gL l j).p = p ∧ (gL l j).v = s
  | 0 => by simp [rV]
  | k + 1 => by
    have ih := rV_mem (l := l) (p := p) (s := s) (k := k)
    simp only [rV]
    by_cases e : (gL l k).fl = false ∧ (gL l k).p = p
    · rw [if_pos (yes_t e), List.mem_append, ih, List.mem_singleton]
      constructor
      · rintro (⟨j, hj, r⟩ | r)
        · exact ⟨j, by omega, r⟩
        · exact ⟨k, by omega, e.1, e.2, r.symm⟩
      · rintro ⟨j, hj, r1, r2, r3⟩
        by_cases ej : j = k
        · subst ej; exact .inr r3.symm
        · exact .inl ⟨j, by omega, r1, r2, r3⟩
    · rw [if_neg (by rw [yes_f e]; simp), ih]
      constructor
      · rintro ⟨j, hj, r⟩; exact ⟨j, by omega, r⟩
      · rintro ⟨j, hj, r1, r2, r3⟩
        by_cases ej : j = k
        · subst ej; exact absurd ⟨r1, r2⟩ e
        · exact ⟨j, by omega, r1, r2, r3⟩

theorem Mk_val {l : List Lf} {p : List Ky} {d : Dt} {s : ByteArray} : ∀ {k : Nat}, Dis l k → (Mk l k p d = some s ↔ ∃ j, j < k ∧ Way (gL l j) = p ∧ ((gL l j).r, (gL l j).q) = d ∧ (gL l j).v = s)
  | 0, _ => ⟨fun h => by simp [Mk] at h, fun ⟨j, hj, _⟩ => by omega⟩
  | k + 1, hd => by
    have ih := Mk_val (l := l) (p := p) (d := d) (s := s) (k := k) (fun i hi j hj => hd i (by omega) j hj)
    simp only [Mk]
    by_cases e : p = wayOf (gL l k).p (kd (gL l k).fl)
    · rw [e, updM_same, ← e]
      by_cases e2 : d = ((gL l k).r, (gL l k).q)
      · rw [e2, updF_same]
        constructor
        · intro h; injection h with h; exact ⟨k, by omega, e.symm, rfl, h⟩
        · rintro ⟨j, hj, r1, r2, r3⟩
          by_cases ej : j = k
          · subst ej; rw [r3]
          · have := hd k (by omega) j (by omega)
            exact absurd ⟨congrArg Prod.fst r2, congrArg Prod.snd r2⟩ this
      · rw [updF_other _ _ e2, ih]
        constructor
        · rintro ⟨j, hj, r⟩; exact ⟨j, by omega, r⟩
        · rintro ⟨j, hj, r1, r2, r3⟩
          by_cases ej : j = k
          · subst ej; exact absurd r2.symm e2
          · exact ⟨j, by omega, r1, r2, r3⟩
    · rw [updM_other _ _ _ e, ih]
      constructor
      · rintro ⟨j, hj, r⟩; exact ⟨j, by omega, r⟩
      · rintro ⟨j, hj, r1, r2, r3⟩
        by_cases ej : j = k
        · subst ej; exact absurd r1.symm e
        · exact ⟨j, by omega, r1, r2, r3⟩
theorem reg_way {l : List Lf} {p : List ByteArray} {s : ByteArray} (hp : PthOk p) (hd : Dis l l.length) : (∃ d, Mk l l.length (wayOf p 1) d = some s) ↔ s ∈ rV l p l.length := by
  rw [rV_mem]
  constructor
  · rintro ⟨d, hd'⟩
    obtain ⟨j, hj, e, _, e3⟩ := (Mk_val hd).1 hd'
    obtain ⟨e1, e2⟩ := wayOf_inj e.symm (by have := hp.1; omega)
    refine ⟨j, hj, ?_, e1.symm, e3⟩
    cases hf : (gL l j).fl with
    | false => rfl
    | true => rw [hf] at e2; cases e2
  · rintro ⟨j, hj, e1, e2, e3⟩
    refine ⟨((gL l j).r, (gL l j).q), (Mk_val hd).2 ⟨j, hj, ?_, rfl, e3⟩⟩
    unfold Way; rw [e1, e2]; rfl

theorem once_in {ts : List ByteArray} {s : ByteArray} {k : Nat} (h : ts.Pairwise (fun x y => cmpS x y < 0)) (hk : k ≤ ts.length) (h1 : ∀ i, i < k → cmpS (gS ts i) s < 0) (h2 : k < ts.length → 0 < cmpS (gS ts k) s) :
    (ts.take k ++ [s] ++ ts.drop k).Pairwise (fun x y => cmpS x y < 0) := by
  have hs : ∀ x ∈ ts.drop k, cmpS s x < 0 := fun x hx => by
    obtain ⟨i, hi, e⟩ := List.getElem_of_mem hx
    simp only [List.length_drop] at hi
    have hkl : k < ts.length := by omega
    have g0 := h2 hkl
    have g1 : cmpS s (gS ts k) < 0 := (CmpT.str.neg s (gS ts k)).2 g0
    have ex : x = gS ts (k + i) := by rw [← e]; simp [gS, List.getD, show k + i < ts.length by omega]
    by_cases hi0 : i = 0
    · subst hi0; rw [ex]; exact g1
    · have g2 : cmpS (gS ts k) (gS ts (k + i)) < 0 := by
        have := List.pairwise_iff_getElem.1 h k (k + i) (by omega) (by omega) (by omega)
        simpa [gS, List.getD, show k < ts.length by omega, show k + i < ts.length by omega] using this
      rw [ex]; exact CmpT.str.tr _ _ _ g1 g2
  have ht : ∀ x ∈ ts.take k, cmpS x s < 0 := fun x hx => by
    obtain ⟨i, hi, e⟩ := List.getElem_of_mem hx
    simp only [List.length_take] at hi
    have ex : x = gS ts i := by rw [← e]; simp [gS, List.getD, show i < ts.length by omega]
    rw [ex]; exact h1 i (by omega)
  have hsp := List.take_append_drop k ts
  rw [← hsp] at h
  obtain ⟨p1, p2, p3⟩ := List.pairwise_append.1 h
  refine List.pairwise_append.2 ⟨List.pairwise_append.2 ⟨p1, List.pairwise_singleton _ _, fun x hx y hy => by rw [List.mem_singleton] at hy; subst hy; exact ht x hx⟩, p2, fun x hx y hy => ?_⟩
  rcases List.mem_append.1 hx with hx | hx
  · exact p3 x hx y hy
  · rw [List.mem_singleton] at hx; subst hx; exact hs y hy
end Go.Proofs.YtdenbicnckkdfaaGreat
