import Derived.Test.YthkppnmnjboiaaaDoorFz
import Derived.Test.YthkppnmnjboiaaaDoorFl
import Derived.Test.YthkppnmnjboiaaaDoorSg
namespace Go.Proofs.YthkppnmnjboiaaaDoor
open Go.ChangeShapes Go.WideShapes Go.ChangeAt Go.RowKit
set_option linter.unusedVariables false
set_option linter.unusedSimpArgs false

theorem cnt_sh {F : Nat → Int} {N p q m : Nat} (h : Cnt (shF F p) (N - p) q m) : Cnt F N (p + q) m := by
  obtain ⟨h1, h2, h3⟩ := h
  refine ⟨h1, fun k hk => ?_, fun ha hb => ?_⟩
  · have := h2 k hk
    rw [Nat.add_assoc]
    exact ⟨by omega, this.2⟩
  · have := h3 (by omega) hb
    rw [Nat.add_assoc]; exact this
theorem guC_sh {F : Nat → Int} {N p q m : Nat} (hp : p ≤ N) : guC F N (p + q) m = guC (shF F p) (N - p) q m := by
  unfold guC shF
  rw [Nat.add_assoc p q m]
  have e : (N ≤ p + (q + m)) ↔ (N - p ≤ q + m) := by omega
  simp only [e]
theorem sumF_sh (F : Nat → Int) (p q : Nat) : ∀ k, sumF F (p + q) k = sumF (shF F p) q k
  | 0 => rfl
  | k + 1 => by
    show sumF F (p + q) k + (F (p + q + k) % 128).toNat * 128 ^ k = sumF (shF F p) q k + (F (p + (q + k)) % 128).toNat * 128 ^ k
    rw [sumF_sh F p q k, Nat.add_assoc p q k]
theorem guV_sh {F : Nat → Int} {N p q m : Nat} (hp : p ≤ N) : guV F N (p + q) m = guV (shF F p) (N - p) q m := by
  unfold guV; rw [guC_sh hp, sumF_sh]
theorem guA_sh {F : Nat → Int} {N p q m : Nat} (hp : p ≤ N) : guA F N (p + q) m = p + guA (shF F p) (N - p) q m := by
  unfold guA; rw [guC_sh hp]; split <;> omega

theorem firstF_of {g : Nat → Int} {n x : Nat} (h : headF g n = (x, 0, 0)) : firstF g n = (x, 0) := by
  unfold firstF
  rw [h]
  by_cases hx : x = 0
  · subst hx; simp
  · simp [hx]
theorem hd_n0 (g : Nat → Int) : headF g 0 = (0, 0, 0) := by unfold headF; simp
theorem hd_1 {g : Nat → Int} {n : Nat} (h1 : 1 ≤ n) (h : g 0 ≠ 199) : headF g n = (1, 0, 0) := by unfold headF; rw [if_pos ⟨h1, h⟩]
theorem hd_n1 {g : Nat → Int} (h : g 0 = 199) : headF g 1 = (0, 0, 0) := by unfold headF; simp [h]
theorem hd_2 {g : Nat → Int} {n : Nat} (h1 : 2 ≤ n) (h0 : g 0 = 199) (h : g 1 ≠ 1) : headF g n = (2, 0, 0) := by unfold headF; rw [if_neg (by simp [h0]), if_pos ⟨h1, h⟩]
theorem hd_n2 {g : Nat → Int} (h0 : g 0 = 199) (h1 : g 1 = 1) : headF g 2 = (0, 0, 0) := by unfold headF; simp [h0, h1]
theorem hd_3 {g : Nat → Int} {n : Nat} (hn : 3 ≤ n) (h0 : g 0 = 199) (h1 : g 1 = 1) (h : g 2 < 1 ∨ 3 < g 2) : headF g n = (3, 0, 0) := by
  unfold headF; rw [if_neg (by simp [h0]), if_neg (by simp [h1]), if_neg (by omega), if_pos h]
theorem hd_4 {g : Nat → Int} {n : Nat} (hn : 3 ≤ n) (h0 : g 0 = 199) (h1 : g 1 = 1) (h : 1 ≤ g 2) (h' : g 2 ≤ 3) :
    headF g n = if (lenX g n).2.2 = 1 then (0, 0, 0) else if (lenX g n).2.2 ≠ 0 ∨ 4000 < (lenX g n).1 then (4, 0, 0) else (0, (lenX g n).2.1.toNat, (lenX g n).1) := by
  unfold headF; rw [if_neg (by simp [h0]), if_neg (by simp [h1]), if_neg (by omega), if_neg (by omega)]

theorem FxR.kept {w w' : World} {B : Nat} {v : Value} {l : List Fx} (h : FxR w B v l) {row : Option Nat} (hg : w.grownBy w' row) (hr : ∀ k, row = some k → k < B) : FxR w' B v l := by
  refine ⟨World.ownsRow.kept h.row hg ?_, fun i hi => (h.pay i hi).gr hg (fun g e1 e2 => by have := (World.ownsRow.lt (h.pay i hi) g e1).1; have := hr g e2.symm; omega), h.far, h.dis⟩
  cases e : v.ownBlock with
  | none => exact .inl rfl
  | some g => exact .inr (fun e2 => by have := (World.ownsRow.lt h.row g e).1; have := hr g e2.symm; omega)
theorem FxR.below {w w' : World} {B : Nat} {v : Value} {l : List Fx} (h : FxR w B v l) (hb : Below w.heap.size w w') : FxR w' B v l :=
  h.kept (row := none) ⟨hb.os, hb.tape, hb.output, hb.size, fun k hk _ => hb.block k hk⟩ (by simp)
theorem fxr_nil (w : World) (B : Nat) : FxR w B (.slice none 0 0) [] :=
  ⟨by simpa [fxCells] using World.ownsRow_nil w B 41 2, fun i hi => by simp at hi, fun i hi => by simp at hi, fun i j hi => by simp at hi⟩
theorem row_weak {w : World} {B B' n s : Nat} {t : TypeId} {v : Value} {xs : List Value} (h : w.ownsRow B t s v n xs) (hB : B' ≤ B) : w.ownsRow B' t s v n xs := by
  obtain ⟨h1, h2⟩ := h
  refine ⟨h1, h2.imp id ?_⟩
  rintro ⟨g, cap, cur, e, hg, r⟩
  exact ⟨g, cap, cur, e, Nat.le_trans hB hg, r⟩
theorem FxR.weak {w : World} {B B' : Nat} {v : Value} {l : List Fx} (h : FxR w B v l) (hB : B' ≤ B) : FxR w B' v l :=
  ⟨row_weak h.row hB, fun i hi => own_weak (h.pay i hi) hB, h.far, h.dis⟩
theorem FxR.step {wr w0 w9 : World} {B : Nat} {fv v9 pv : Value} {l : List Fx} {kd : Int} {pl : List Int} (h : FxR wr B fv l) (hB : B ≤ wr.heap.size) (b0 : Below wr.heap.size wr w0) (ov : Own w0 wr.heap.size pv pl) (gg : w0.grownBy w9 fv.ownBlock)
    (hown : w9.ownsRow B 41 2 v9 (l.length + 1) (fxCells l ++ [.int .i64 kd, pv])) (hloc : v9.ownBlock = fv.ownBlock ∨ ∃ k, v9.ownBlock = some k ∧ w0.heap.size ≤ k) : FxR w9 B v9 (l ++ [(kd, pv, pl)]) := by
  have h0 := h.below b0
  have z0 := b0.size
  have hold : ∀ i, i < l.length → ∀ k, (gFx l i).2.1.ownBlock = some k → k < wr.heap.size := fun i hi k hk => (World.ownsRow.lt (h.pay i hi) k hk).2
  have hnew : ∀ k, pv.ownBlock = some k → wr.heap.size ≤ k ∧ k < w0.heap.size := fun k hk => World.ownsRow.lt ov k hk
  have hfv : ∀ k, fv.ownBlock = some k → k < wr.heap.size := fun k hk => (World.ownsRow.lt h.row k hk).2
  have hi' : ∀ i, i < (l ++ [(kd, pv, pl)]).length → i < l.length ∨ i = l.length := fun i hi => by simp at hi; omega
  refine ⟨?_, fun i hi => ?_, fun i hi k hk e => ?_, fun i j hi hj hne k hk e => ?_⟩
  · have e : fxCells (l ++ [(kd, pv, pl)]) = fxCells l ++ [.int .i64 kd, pv] := by simp [fxCells]
    rw [e, List.length_append]; exact hown
  · rcases hi' i hi with h1 | rfl
    · rw [gFx_left h1]
      exact (h0.pay i h1).gr gg (fun g e1 e2 => h.far i h1 g e1 e2.symm)
    · rw [gFx_last]
      exact (own_weak ov hB).gr gg (fun g e1 e2 => by have := hnew g e1; have := hfv g e2.symm; omega)
  · rcases hi' i hi with h1 | rfl
    · rw [gFx_left h1] at hk
      rcases hloc with q | ⟨j, q, hj⟩
      · exact h.far i h1 k hk (q ▸ e)
      · rw [q] at e; injection e with e; have := hold i h1 k hk; omega
    · rw [gFx_last] at hk
      have := hnew k hk
      rcases hloc with q | ⟨j, q, hj⟩
      · have := hfv k (q ▸ e); omega
      · rw [q] at e; injection e with e; omega
  · rcases hi' i hi with h1 | rfl <;> rcases hi' j hj with h2 | rfl
    · rw [gFx_left h1] at hk; rw [gFx_left h2] at e; exact h.dis i j h1 h2 hne k hk e
    · rw [gFx_left h1] at hk; rw [gFx_last] at e; have := hold i h1 k hk; have := hnew k e; omega
    · rw [gFx_last] at hk; rw [gFx_left h2] at e; have := hold j h2 k e; have := hnew k hk; omega
    · exact hne rfl

structure DcI (W0 wr : World) (cb : Nat) (F : Nat → Int) (N : Nat) (R : Nat × Nat × List (Int × List Int)) (p : Nat) (a : Option Addr) (c : Nat) (fv : Value) (l : List Fx) : Prop where
  bel : Below cb W0 wr
  lt : cb < wr.heap.size
  c0 : wr.cell? ⟨cb, 0, none⟩ = some (.slice a N c)
  c2 : wr.cell? ⟨cb, 2, none⟩ = some (.int .i64 (p : Int))
  c3 : ∃ u, wr.cell? ⟨cb, 3, none⟩ = some u
  c4 : ∃ u, wr.cell? ⟨cb, 4, none⟩ = some u
  c5 : wr.cell? ⟨cb, 5, none⟩ = some (.int .i64 0)
  c6 : wr.cell? ⟨cb, 6, none⟩ = some fv
  zz : ∀ i, wr.frozen? ⟨cb, i, none⟩ = false
  le : p ≤ N
  fr : FxR wr (cb + 1) fv l
  t1 : (feedF F N p).1 = R.1
  t2 : (feedF F N p).2.1 = R.2.1
  t3 : l.map prFx ++ (feedF F N p).2.2 = R.2.2
  ll : l.length ≤ p

structure DcE (W0 wr : World) (cb : Nat) (N : Nat) (R : Nat × Nat × List (Int × List Int)) (a : Option Addr) (c : Nat) (fv : Value) (l : List Fx) : Prop where
  bel : Below cb W0 wr
  lt : cb < wr.heap.size
  c0 : wr.cell? ⟨cb, 0, none⟩ = some (.slice a N c)
  c2 : wr.cell? ⟨cb, 2, none⟩ = some (.int .i64 (R.2.1 : Nat))
  c5 : wr.cell? ⟨cb, 5, none⟩ = some (.int .i64 (R.1 : Nat))
  c6 : wr.cell? ⟨cb, 6, none⟩ = some fv
  fr : FxR wr (cb + 1) fv l
  t3 : l.map prFx = R.2.2
  le : R.2.1 ≤ N
  ll : l.length ≤ N
variable {W0 wr w' : World} {cb N p c : Nat} {F : Nat → Int} {R : Nat × Nat × List (Int × List Int)} {a : Option Addr} {fv : Value} {l : List Fx}
theorem DcI.kp (h : DcI W0 wr cb F N R p a c fv l) (hg : wr.grownBy w' (some cb)) (hk : Kp wr w' cb) : DcI W0 w' cb F N R p a c fv l := by
  obtain ⟨u3, k3⟩ := h.c3
  obtain ⟨u4, k4⟩ := h.c4
  exact ⟨h.bel.grown hg (Nat.le_of_lt h.lt) (fun k e => by injection e with e; omega), Nat.lt_of_lt_of_le h.lt hg.size, (hk.1 0 (by omega)).trans h.c0, (hk.1 2 (by omega)).trans h.c2, ⟨u3, (hk.1 3 (by omega)).trans k3⟩, ⟨u4, (hk.1 4 (by omega)).trans k4⟩, (hk.1 5 (by omega)).trans h.c5, (hk.1 6 (by omega)).trans h.c6, fun i => (hk.2 i).trans (h.zz i), h.le, h.fr.kept hg (fun k e => by injection e with e; omega), h.t1, h.t2, h.t3, h.ll⟩
theorem DcI.below (h : DcI W0 wr cb F N R p a c fv l) (hb : Below wr.heap.size wr w') : DcI W0 w' cb F N R p a c fv l :=
  h.kp ⟨hb.os, hb.tape, hb.output, hb.size, fun k hk _ => hb.block k hk⟩ ((Kp.refl _ _).below hb h.lt)
theorem cell_set_ne {w : World} {cb i j : Nat} {v : Value} (h : i ≠ j) : (w.setCell ⟨cb, j, none⟩ v).cell? ⟨cb, i, none⟩ = w.cell? ⟨cb, i, none⟩ :=
  World.cell?_setCell_other _ _ _ _ (by intro e; injection e with _ e; omega)
theorem grown_set1 (w : World) (cb i : Nat) (v : Value) : w.grownBy (w.setCell ⟨cb, i, none⟩ v) (some cb) := grown_set (grown_refl w none) v

theorem DcI.set (h : DcI W0 wr cb F N R p a c fv l) (i : Nat) (hi : i = 3 ∨ i = 4) (v : Value) : DcI W0 (wr.setCell ⟨cb, i, none⟩ v) cb F N R p a c fv l := by
  obtain ⟨u3, k3⟩ := h.c3
  obtain ⟨u4, k4⟩ := h.c4
  have hg := grown_set1 wr cb i v
  refine ⟨h.bel.grown hg (Nat.le_of_lt h.lt) (fun k e => by injection e with e; omega), Nat.lt_of_lt_of_le h.lt hg.size, (cell_set_ne (by omega)).trans h.c0, (cell_set_ne (by omega)).trans h.c2, ?_, ?_, (cell_set_ne (by omega)).trans h.c5, (cell_set_ne (by omega)).trans h.c6, fun j => by rw [World.frozen?_setCell]; exact h.zz j, h.le, h.fr.kept hg (fun k e => by injection e with e; omega), h.t1, h.t2, h.t3, h.ll⟩
  · rcases hi with rfl | rfl
    · exact ⟨_, World.cell?_setCell_same _ _ _ k3⟩
    · exact ⟨u3, (cell_set_ne (by omega)).trans k3⟩
  · rcases hi with rfl | rfl
    · exact ⟨u4, (cell_set_ne (by omega)).trans k4⟩
    · exact ⟨_, World.cell?_setCell_same _ _ _ k4⟩
theorem DcI.stop (h : DcI W0 wr cb F N R p a c fv l) (hs : firstF (shF F p) (N - p) = (0, 0)) : DcE W0 wr cb N R a c fv l := by
  have e := feedF_stop (f := F) (N := N) (p := p) (by rw [hs])
  have t1 := h.t1
  have t2 := h.t2
  have t3 := h.t3
  rw [e, hs] at t1
  rw [e] at t2 t3
  have t1' : 0 = R.1 := t1
  have t2' : p = R.2.1 := t2
  exact ⟨h.bel, h.lt, h.c0, by rw [← t2']; exact h.c2, by rw [← t1']; exact h.c5, h.c6, h.fr, by simpa using t3, by rw [← t2']; exact h.le, Nat.le_trans h.ll h.le⟩
theorem DcI.fail (h : DcI W0 wr cb F N R p a c fv l) {x : Nat} (hs : firstF (shF F p) (N - p) = (x, 0)) : DcE W0 (wr.setCell ⟨cb, 5, none⟩ (.int .i64 (x : Int))) cb N R a c fv l := by
  have e := feedF_stop (f := F) (N := N) (p := p) (by rw [hs])
  have t1 := h.t1
  have t2 := h.t2
  have t3 := h.t3
  rw [e, hs] at t1
  rw [e] at t2 t3
  have t1' : x = R.1 := t1
  have t2' : p = R.2.1 := t2
  have hg := grown_set1 wr cb 5 (.int .i64 (x : Int))
  exact ⟨h.bel.grown hg (Nat.le_of_lt h.lt) (fun k e => by injection e with e; omega), Nat.lt_of_lt_of_le h.lt hg.size, (cell_set_ne (by omega)).trans h.c0, by rw [← t2']; exact (cell_set_ne (by omega)).trans h.c2, by rw [← t1']; exact World.cell?_setCell_same _ _ _ h.c5, (cell_set_ne (by omega)).trans h.c6, h.fr.kept hg (fun k e => by injection e with e; omega), by simpa using t3, by rw [← t2']; exact h.le, Nat.le_trans h.ll h.le⟩

def Bts (W0 : World) (cb : Nat) (a : Option Addr) (N : Nat) (F : Nat → Int) : Prop := N = 0 ∨ ∃ b, a = some ⟨b, 0, none⟩ ∧ b < cb ∧ ∀ i, i < N → W0.cell? ⟨b, i, none⟩ = some (.int .u8 (F i))

set_option maxHeartbeats 400000 in
theorem failC (cb : Nat) (y : Int) (u : Value) (w : World) (h : w.cell? ⟨cb, 5, none⟩ = some u) (hz : w.frozen? ⟨cb, 5, none⟩ = false) :
    Calls Tryd.prog 33 #[.pointer (some ⟨cb, 0, none⟩), .int .i64 y] w fun e w' => e = .returned .nilFunc ∧ w' = w.setCell ⟨cb, 5, none⟩ (.int .i64 y) := by
  go_enter Tryd.func33, Tryd.ntmps33
  go_wp2_with fail
  go_ret
  exact ⟨rfl, rfl⟩

set_option maxRecDepth 100000 in
set_option maxHeartbeats 1000000 in
theorem expectC (k x : Nat) (want why : Int) (aE : Addr) (hn : N ≤ 4194304) (hI : DcI W0 wr cb F N R p a c fv l) (h1 : wr.cell? ⟨cb, 1, none⟩ = some (.int .i64 (x : Int))) (hB : Bts W0 cb a N F) (hE : wr.cell? ⟨0, 0, none⟩ = some (.iface 103 (.pointer (some aE)))) :
    Calls Tryd.prog 26 #[.pointer (some ⟨cb, 0, none⟩), .int .u8 want, .int .i64 why, .func (.func k) #[] #[]] wr fun e w' =>
      (N ≤ x ∧ e = .returned .nilFunc ∧ DcI W0 w' cb F N R p a c fv l) ∨
      (x < N ∧ F x ≠ want ∧ e = .returned .nilFunc ∧ ∃ w1, DcI W0 w1 cb F N R p a c fv l ∧ w' = w1.setCell ⟨cb, 5, none⟩ (.int .i64 why)) ∨
      (x < N ∧ F x = want ∧ e = .returned (.func (.func k) #[] #[]) ∧ DcI W0 w' cb F N R p a c fv l ∧ w'.cell? ⟨cb, 1, none⟩ = some (.int .i64 ((x + 1 : Nat) : Int))) := by
  have HI := hid hI
  have HC : Hid (Cur wr cb a N c (x : Int)) := hid ⟨hI.c0, h1, hI.zz 1⟩
  clear hI h1
  by_cases hx : N ≤ x
  · go_enter Tryd.func26, Tryd.ntmps26
    go_wp2_with fail
    refine (next_end cb a N c (x : Int) aE _ hn HC.out (.inr (by omega)) hE).mono ?_
    rintro e w1 ⟨rfl, b1⟩
    have HI1 := hid (HI.out.below b1)
    clear b1
    go_wp2_with fail
    go_ret
    exact .inl ⟨hx, rfl, HI1.out⟩
  · have hx' : x < N := by omega
    rcases hB with h0 | ⟨b, rfl, hb, hc⟩
    · omega
    have HX : Hid (wr.cell? ⟨b, 0 + x, none⟩ = some (.int .u8 (F x))) := hid (by rw [Nat.zero_add]; exact (HI.out.bel.cell (p := ⟨b, x, none⟩) hb).trans (hc x hx'))
    have HN := hid (next_ok2 cb b 0 N c x (F x) wr hn HC.out hx' HX.out)
    clear hc hE HX HC
    by_cases he : F x = want
    · have HE := hid he
      rw [he] at HN
      have hd : (want != want) = false := by simp
      clear he
      go_enter Tryd.func26, Tryd.ntmps26
      go_wp2_with fail
      refine HN.out.mono ?_
      rintro e w1 ⟨rfl, cu1, g1, kp1⟩
      have HI1 := hid (HI.out.kp g1 kp1)
      have HCU := hid cu1.2.1
      clear cu1 g1 kp1 HN
      go_wp2_with fail
      go_ret
      exact .inr (.inr ⟨hx', HE.out, rfl, HI1.out, HCU.out⟩)
    · have hd : (F x != want) = true := by simpa using he
      have HE := hid he
      clear he
      obtain ⟨z, hz⟩ : ∃ z, F x = z := ⟨_, rfl⟩
      rw [hz] at HN hd
      go_enter Tryd.func26, Tryd.ntmps26
      go_wp2_with fail
      refine HN.out.mono ?_
      rintro e w1 ⟨rfl, cu1, g1, kp1⟩
      have HI1 := hid (HI.out.kp g1 kp1)
      clear cu1 g1 kp1 HN
      go_wp2_with fail
      refine (failC cb why _ w1 HI1.out.c5 (HI1.out.zz 5)).mono ?_
      rintro e w2 ⟨rfl, rfl⟩
      go_wp2_with fail
      go_ret
      exact .inr (.inl ⟨hx', HE.out, rfl, w1, HI1.out, rfl⟩)
end Go.Proofs.YthkppnmnjboiaaaDoor
