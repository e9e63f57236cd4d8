import Derived.Test.YtakmpmhjcngbbaaGreatDoorMgg37
import Derived.Test.YtakmpmhjcngbbaaGreatDoorMgg28
import Derived.Test.YtakmpmhjcngbbaaGreatDoorMgg30
import Derived.Test.YtakmpmhjcngbbaaGreatDoorMgg22
import Derived.Test.YtakmpmhjcngbbaaGreatDoorMgg16
set_option linter.unusedVariables false
set_option linter.unusedSimpArgs false
set_option maxRecDepth 100000
set_option maxHeartbeats 40000000
namespace Go.Proofs.YtakmpmhjcngbbaaGreatDoor
open Go.ChangeShapes Go.WideShapes Go.ChangeAt Go.RowKit Go.Maps
theorem LB.low {w : World} {lo lo' : Nat} {v : Value} {l : List Lf} (h : LB w lo v l) (hl : lo' ≤ lo) : LB w lo' v l := by
  obtain ⟨P, Q, h1, h2⟩ := h; exact ⟨P, Q, h1.low hl, h2⟩
theorem LB.set {w : World} {lo : Nat} {v : Value} {l : List Lf} (h : LB w lo v l) (q : Addr) (u : Value) (hq : q.block < lo) : LB (w.setCell q u) lo v l :=
  h.move (by simp [World.setCell]) (fun b h1 h2 => Below.heap_setCell _ _ _ _ (by omega))
theorem FR.setLow {w : World} {B : Nat} {v : Value} {l : List Rn} (h : FR w B v l) (q : Addr) (u : Value) (hq : q.block < B) : FR (w.setCell q u) B v l :=
  h.setFar q u (fun e => by have := (World.ownsRow.lt h _ e).1; omega)
theorem SOw.of {w : World} {lo : Nat} {a x : Option Addr} {c d : Nat} {S : Sx} {ul : List Rn} (h : LB w lo (.slice a S.l.length c) S.l) (hf : FR w lo (.slice x S.n d) ul) (hn : S.n = ul.length) (hR : S.R = fun i => (gR ul i).1) (hF : S.F = fun i => (gR ul i).2.1) (hT : S.T = fun i => (gR ul i).2.2) (hlo : lo ≤ w.heap.size) : SOw w lo w.heap.size a x d S := by
  obtain ⟨P, Q, h1, h2⟩ := h
  have hrn : RSeg w x S.n S.R S.F S.T := by
    obtain ⟨a', c', e, s, _, _⟩ := hf.fs
    injection e with e1 e2 e3
    subst e1
    rw [hn, hR, hF, hT]; exact s.rseg
  have hro : S.n = 0 ∨ ∃ g ys, x = some ⟨g, 0, none⟩ ∧ g < w.heap.size ∧ w.ownsRow lo 64 3 (.slice (some ⟨g, 0, none⟩) S.n d) S.n ys := by
    have hf' : w.ownsRow lo 64 3 (.slice x S.n d) S.n (fCells ul) := by have := hf; unfold FR at this; rw [hn]; rw [hn] at this; exact this
    rcases hf'.2 with ⟨e, e0⟩ | ⟨g, cap, cur, e, r⟩
    · exact .inl e0
    · injection e with e1 e2 e3
      subst e1
      exact .inr ⟨g, _, rfl, (World.ownsRow.lt hf' g rfl).2, hf'⟩
  rcases h1.row.2 with ⟨e, e0⟩ | ⟨g, cap, cur, e, r⟩
  · exact ⟨.inl e0, hrn, .inl e0, hro, hlo, Nat.le_refl _⟩
  · injection e with e1 e2 e3
    subst e1
    refine ⟨h1.lseg rfl, hrn, .inr ⟨g, fun i => some ⟨P i, 0, none⟩, Q, P, rfl, ⟨(h1.lt g rfl).1, (h1.lt g rfl).2, fun i hi _ => ?_, fun i j hi hj _ _ hne => h2 i j hi hj hne⟩, fun k0 => ⟨Btw.refl _ _ _, fun _ _ _ => rfl, ⟨_, own_wrF h1.row⟩, fun i hi => (h1.cell rfl hi).1, fun i _ hi _ => (h1.pt i hi).2.2.2.1.pmk, fun i hi => by omega, fun i hi => by omega⟩⟩, hro, hlo, Nat.le_refl _⟩
    obtain ⟨q1, q2, q3, _⟩ := h1.pt i hi
    exact ⟨rfl, fun e => q3 (by rw [e]; rfl), q1, q2⟩
theorem stateC {z0 : Nat × Nat} {bd : Nat} {J : List Lf} {ul : List Rn} {R F T : Nat → Int} {m : Nat} (w : World) (h : LvJ w z0 bd J ul) (hlv : LvOk R F T m J J.length) (hbd : LvB J) :
    Calls Tryz.prog 16 #[.agg #[.map (some z0.1), .map (some z0.2), .map (some bd)]] w fun e w' => (∃ a c x d, e = .returned (.agg #[.slice a J.length c, .slice x ul.length d]) ∧ LB w' (w.heap.size + 2) (.slice a J.length c) J ∧ FR w' (w.heap.size + 2) (.slice x ul.length d) ul ∧ w.heap.size + 2 ≤ w'.heap.size) ∧ Below w.heap.size w w' := by
  obtain ⟨W, hW⟩ : ∃ W, (w.alloc (.cells #[.map (some z0.1), .map (some z0.2), .map (some bd)] 51)).alloc (.cells #[.slice none 0 0, .slice none 0 0] 28) = W := ⟨_, rfl⟩
  have b0 : Below w.heap.size w W := by rw [← hW]; exact below2 _ _ _
  have X0 : Bx3 W w.heap.size (.map (some z0.1)) (.map (some z0.2)) (.map (some bd)) := by rw [← hW]; exact (Bx3.made _ _ _ _ _).below ((Below.refl _ _).alloc (Nat.le_refl _) _) (Bx3.made _ _ _ _ _).lt
  have R0 : Bx2 W (w.heap.size + 1) (.slice none 0 0) (.slice none 0 0) := by rw [← hW]; simpa using Bx2.made (w.alloc (.cells #[.map (some z0.1), .map (some z0.2), .map (some bd)] 51)) (.slice none 0 0) (.slice none 0 0) 28
  have zW : W.heap.size = w.heap.size + 2 := by rw [← hW]; simp
  obtain ⟨N, B, c, n, D, G, L, h1, h2, h3, h4, h5, h6⟩ := h.below b0
  have hTJ := h1.tj hbd.dis
  have HAL : Hid (∀ w1, Below W.heap.size W w1 → Calls Tryz.prog 31 #[.agg #[.map (some z0.1), .map (some z0.2)], .slice none 0 0, .slice none 0 0] w1 fun e w' => (∃ a c, e = .returned (.slice a J.length c) ∧ LB w' W.heap.size (.slice a J.length c) J) ∧ Below w1.heap.size w1 w') := hid (fun w1 b1 => by
    have := appendLeavesN J W B c N (by simpa using h1.tre) (hTJ.nki (by rw [h1.root]; simp)) h2 hlv hbd 8 [] rfl (by omega) (.slice none 0 0) [] (.slice none 0 0) w1 b1 (LB.nil w1 _) (.inl ⟨rfl, rfl⟩) (fun g hg => by cases hg) (by rw [wL_all hlv]; have := hbd.len; simp; omega)
    rw [show wayOf [] 3 = ([] : List Ky) from rfl, h1.root] at this
    refine this.mono ?_
    rintro e w' ⟨v, rfl, lb, g⟩
    rw [wL_all hlv, List.nil_append] at lb
    obtain ⟨a, c, rfl⟩ := lb.form
    exact ⟨⟨a, c, rfl, lb⟩, g.below (Nat.le_refl _) (fun k hk => by cases hk)⟩)
  have HCX : Hid (∀ w1, Below W.heap.size W w1 → Calls Tryz.prog 32 #[.map (some bd)] w1 fun e w' => (∃ x d, e = .returned (.agg #[.slice x ul.length d]) ∧ FR w' W.heap.size (.slice x ul.length d) ul) ∧ Below w1.heap.size w1 w') := hid (fun w1 b1 => by
    have := contextM2 (h3.below b1) h5 h6
    rw [h4] at this
    refine this.mono ?_
    rintro e w' ⟨v, rfl, hf, b⟩
    obtain ⟨a, c, rfl, _⟩ := hf.fs
    exact ⟨⟨a, c, rfl, hf.weak b1.size⟩, b⟩)
  have HX := hid X0
  have HR := hid R0
  have HB0 := hid b0
  have HZW := hid zW
  have HSE : Hid (∀ w', Below W.heap.size W w' → (w'.cell? ⟨w.heap.size, 0, none⟩ = some (.map (some z0.1)) ∧ w'.cell? ⟨w.heap.size, 1, none⟩ = some (.map (some z0.2)) ∧ w'.cell? ⟨w.heap.size, 2, none⟩ = some (.map (some bd)))) := hid (fun w' b => by
    have A1 := HX.out.below b HX.out.lt
    exact ⟨A1.c0, A1.c1, A1.c2⟩)
  clear b0 X0 R0 zW h h1 h2 h3 h4 h5 h6 hTJ hlv hbd
  go_enter Tryz.func16, Tryz.ntmps16
  go_wp2_with fail
  try rw [hW]
  clear hW
  refine wp_region_held_drew (S := fun w' => w'.cell? ⟨w.heap.size, 0, none⟩ = some (.map (some z0.1)) ∧ w'.cell? ⟨w.heap.size, 1, none⟩ = some (.map (some z0.2)) ∧ w'.cell? ⟨w.heap.size, 2, none⟩ = some (.map (some bd))) (by kernel_rfl) (HSE.out _ (Below.refl _ _).drew) (fun hHeld => ?_)
  refine tk 0 3 ?_ (by kernel_rfl) (fun _ _ _ h => h) ?_ hHeld (tk 1 4 ?_ (by kernel_rfl) (fun _ _ _ h => h) ?_ hHeld (tk 3 6 ?_ (by kernel_rfl) (fun _ _ _ h => h) ?_ hHeld (tk 4 7 ?_ (by kernel_rfl) (fun _ _ _ h => h) ?_ hHeld ?_)))
  iterate 4 (rotate_left; focus (intro o ho; simp only [gZa, gZb, gZc, gZd] at ho; subst ho; refine Or.inl ⟨by rfl, ?_⟩; intro w hSw; (try dsimp only at hSw); (try simp only [Act.put, sZa, sZb, sZc]); go_simp; try with_reducible rfl))
  try simp only [Act.put, sZa, sZb, sZc]
  refine call1 (i := 2) (d := some 5) (by kernel_rfl) (by kernel_rfl) ?_
  intro o ho hod K hK; simp only [gZa, gZb, gZc, gZd] at ho; subst ho
  go_simp
  refine (HAL.out _ (Below.refl _ _).drew).mono ?_
  rintro e w1 ⟨⟨a, c, rfl, lb⟩, b1⟩
  have b1' : Below W.heap.size W w1 := ⟨b1.os, b1.tape, b1.output, b1.size, b1.block⟩
  have HLB := hid lb
  clear lb
  refine hK.out _ _ (HSE.out _ b1') (fun hHeld => ?_)
  clear hK K
  try simp only [Act.put, sZa, sZb, sZc]
  refine call1 (i := 5) (d := some 8) (by kernel_rfl) (by kernel_rfl) ?_
  intro o ho hod K hK; simp only [gZa, gZb, gZc, gZd] at ho; subst ho
  go_simp
  refine (HCX.out _ b1').mono ?_
  rintro e w2 ⟨⟨x, d, rfl, hf⟩, b2⟩
  have b2' := keepS b1' b2
  have HFR := hid hf
  have HL2 := hid (HLB.out.below b2)
  have R2 := HR.out.below b2' HR.out.lt
  clear hf
  refine hK.out _ _ (HSE.out _ b2') (fun hHeld => ?_)
  clear hK K
  try simp only [Act.put, sZa, sZb, sZc]
  refine tk 6 9 ?_ (by kernel_rfl) (fun _ _ _ h => h) ?_ hHeld ?_
  rotate_left
  · (intro o ho; simp only [gZa, gZb, gZc, gZd] at ho; subst ho; refine Or.inl ⟨by rfl, ?_⟩; intro w hSw; (try dsimp only at hSw); go_simp; try with_reducible rfl)
  try simp only [Act.put, sZa, sZb, sZc]
  have t0 := R2.c0
  have t1 := R2.c1
  have tf := R2.f
  have HR3 := hid (R2.set (.slice a J.length c) (.slice x ul.length d))
  have HX3 := hid (((HX.out.below b2' HX.out.lt).far (grownSet w2 ⟨w.heap.size + 1, 0, none⟩ (.slice a J.length c)) (by show w.heap.size ≠ w.heap.size + 1; omega)).far (grownSet _ ⟨w.heap.size + 1, 1, none⟩ (.slice x ul.length d)) (by show w.heap.size ≠ w.heap.size + 1; omega))
  have HB9 := hid (keepS HB0.out b2')
  have HZ2 : Hid (w.heap.size + 2 ≤ w2.heap.size) := hid (by have h1 := HZW.out; have h2 := b2'.size; omega)
  have HL9 : Hid (LB ((w2.setCell ⟨w.heap.size + 1, 0, none⟩ (.slice a J.length c)).setCell ⟨w.heap.size + 1, 1, none⟩ (.slice x ul.length d)) (w.heap.size + 2) (.slice a J.length c) J) := hid (by
    have h1 := HL2.out
    rw [HZW.out] at h1
    exact (h1.set _ _ (by show w.heap.size + 1 < w.heap.size + 2; omega)).set _ _ (by show w.heap.size + 1 < w.heap.size + 2; omega))
  have HF9 : Hid (FR ((w2.setCell ⟨w.heap.size + 1, 0, none⟩ (.slice a J.length c)).setCell ⟨w.heap.size + 1, 1, none⟩ (.slice x ul.length d)) (w.heap.size + 2) (.slice x ul.length d) ul) := hid (by
    have h1 := HFR.out
    rw [HZW.out] at h1
    exact (h1.setLow _ _ (by show w.heap.size + 1 < w.heap.size + 2; omega)).setLow _ _ (by show w.heap.size + 1 < w.heap.size + 2; omega))
  refine call1 (i := 7) (d := none) (by kernel_rfl) (by kernel_rfl) ?_
  intro o ho hod K hK; simp only [gZa, gZb, gZc, gZd] at ho; subst ho
  go_simp
  refine hK.out _ _ ⟨HX3.out.c0, HX3.out.c1, HX3.out.c2⟩ (fun hHeld => ?_)
  clear hK K
  try simp only [Act.put, sZa, sZb, sZc]
  refine wpAnyH_done (by kernel_rfl) ?_ _
  clear hHeld b1 b1' b2 b2' R2 t0 t1 tf HSE HAL HCX
  go_wp2_with fail
  have s0 := HR3.out.c0
  have s1 := HR3.out.c1
  refine bodyPost_ret (v := .agg #[.slice a J.length c, .slice x ul.length d]) (by simp [results, Tryz.results16, go_sem, s0, s1]) rfl ⟨⟨a, c, x, d, rfl, HL9.out, HF9.out, by simp [World.setCell]; have := HZ2.out; omega⟩, ?_⟩
  exact (HB9.out.setCell (by simp) _).setCell (by simp) _
structure LX (v : World) (b : Nat) : Prop where
  c0 : ∃ u, v.cell? ⟨b, 0, none⟩ = some (.map u)
  c1 : ∃ u, v.cell? ⟨b, 1, none⟩ = some (.map u)
  c2 : ∃ u, v.cell? ⟨b, 2, none⟩ = some (.map u)
  f0 : ∀ i, v.frozen? ⟨b, i, none⟩ = false
  lt : b < v.heap.size
section
variable {w v v' : World} {tb ub : Nat}
theorem LX.same {b : Nat} (h : LX v b) (e : v'.heap[b]? = v.heap[b]?) (hz : v.heap.size ≤ v'.heap.size) : LX v' b := by
  obtain ⟨u0, k0⟩ := h.c0
  obtain ⟨u1, k1⟩ := h.c1
  obtain ⟨u2, k2⟩ := h.c2
  exact ⟨⟨u0, (World.cell?_of_block (a := ⟨b, 0, none⟩) e).trans k0⟩, ⟨u1, (World.cell?_of_block (a := ⟨b, 1, none⟩) e).trans k1⟩, ⟨u2, (World.cell?_of_block (a := ⟨b, 2, none⟩) e).trans k2⟩, fun i => (World.frozen?_of_block (a := ⟨b, i, none⟩) e).trans (h.f0 i), Nat.lt_of_lt_of_le h.lt hz⟩
theorem LX.fill {b : Nat} (h : LX v b) (s0 s1 s2 : Option Nat) :
    ∃ Z, Z = ((v.setCell ⟨b, 0, none⟩ (.map s0)).setCell ⟨b, 1, none⟩ (.map s1)).setCell ⟨b, 2, none⟩ (.map s2) ∧ Z.cell? ⟨b, 0, none⟩ = some (.map s0) ∧ Z.cell? ⟨b, 1, none⟩ = some (.map s1) ∧ Z.cell? ⟨b, 2, none⟩ = some (.map s2) ∧ v.grownBy Z (some b) := by
  obtain ⟨u0, k0⟩ := h.c0
  obtain ⟨u1, k1⟩ := h.c1
  obtain ⟨u2, k2⟩ := h.c2
  refine ⟨_, rfl, ?_, ?_, ?_, ⟨rfl, rfl, rfl, by simp [World.setCell], fun k hk hne => ?_⟩⟩
  · rw [World.cell?_setCell_other _ _ _ _ (by simp), World.cell?_setCell_other _ _ _ _ (by simp)]
    exact World.cell?_setCell_same _ _ _ k0
  · rw [World.cell?_setCell_other _ _ _ _ (by simp)]
    exact World.cell?_setCell_same _ _ _ (by rw [World.cell?_setCell_other _ _ _ _ (by simp)]; exact k1)
  · exact World.cell?_setCell_same _ _ _ (by rw [World.cell?_setCell_other _ _ _ _ (by simp), World.cell?_setCell_other _ _ _ _ (by simp)]; exact k2)
  · have hk2 : k ≠ b := fun e => hne (by rw [e])
    exact (Below.heap_setCell _ _ _ _ hk2).trans ((Below.heap_setCell _ _ _ _ hk2).trans (Below.heap_setCell _ _ _ _ hk2))
end
def RsP (f : Nat → Int) (n : Nat) (w : World) (e : Ending) (w' : World) : Prop := Below w.heap.size w w' ∧
  ((∃ (g : List (Int × List (Int × Int))) (J : List Lf) (z0 : Nat × Nat) (bd : Nat), gsR f n = some (g, J) ∧ e = .returned (.tuple #[.agg #[.map (some z0.1), .map (some z0.2), .map (some bd)], .nilIface]) ∧ LvJ w' z0 bd J (flatG g) ∧ okR (-1) 1000 g) ∨
   (gsR f n = none ∧ ∃ t v, e = .returned (.tuple #[.agg #[.map none, .map none, .map none], .iface t v])))
theorem readStateC (B : Nat) (a : Option Addr) (n c : Nat) (f : Nat → Int) (aT aS aL aE : Addr) (w : World) (hn : n ≤ 1048576) (hnc : n ≤ c) (hcc : c ≤ 4611686018427387904) (hf : Byt f) (hs : Seg w a n f) (hE : Errs w B aT aS aL aE) (hB : B ≤ w.heap.size) (hab : ∀ y, a = some y → y.block < w.heap.size) :
    Calls Tryz.prog 15 #[.slice a n c] w fun e w' => RsP f n w e w' := by
  obtain ⟨P, hP⟩ : ∃ P, RsP f n w = P := ⟨_, rfl⟩
  rw [hP]
  have HP := hid hP
  clear hP
  have bR : Below w.heap.size w (w.alloc (.cells #[.map none, .map none, .map none] 51)) := (Below.refl _ _).alloc (Nat.le_refl _) _
  have xR : LX (w.alloc (.cells #[.map none, .map none, .map none] 51)) w.heap.size := ⟨⟨none, by simp⟩, ⟨none, by simp⟩, ⟨none, by simp⟩, fun i => by rw [World.frozen?_alloc_at _ _ _ _ rfl], by simp⟩
  by_cases h4 : 4000 < n
  · have HN : Hid (gsR f n = none) := hid (if_pos h4)
    obtain ⟨WR, hWR⟩ : ∃ WR, w.alloc (.cells #[.map none, .map none, .map none] 51) = WR := ⟨_, rfl⟩
    rw [hWR] at bR xR
    have HXR := hid xR
    have HBR := hid bR
    have HE := hE.below (bR.mono hB)
    obtain ⟨ev, ge⟩ := HE.x0
    have lo : 0 < w.heap.size := Nat.lt_of_lt_of_le (Nat.lt_of_lt_of_le (by decide) HE.lG) hB
    obtain ⟨u0, k0⟩ := xR.c0
    obtain ⟨u1, k1⟩ := xR.c1
    obtain ⟨u2, k2⟩ := xR.c2
    have f0 := xR.f0
    have ge1 : (WR.setCell ⟨w.heap.size, 0, none⟩ (.map none)).cell? ⟨0, 0, none⟩ = some (.iface 233 ev) := by rw [World.cell?_setCell_far _ _ _ _ (show w.heap.size ≠ 0 by omega)]; exact ge
    have ge2 : ((WR.setCell ⟨w.heap.size, 0, none⟩ (.map none)).setCell ⟨w.heap.size, 1, none⟩ (.map none)).cell? ⟨0, 0, none⟩ = some (.iface 233 ev) := by rw [World.cell?_setCell_far _ _ _ _ (show w.heap.size ≠ 0 by omega)]; exact ge1
    have ge3 : (((WR.setCell ⟨w.heap.size, 0, none⟩ (.map none)).setCell ⟨w.heap.size, 1, none⟩ (.map none)).setCell ⟨w.heap.size, 2, none⟩ (.map none)).cell? ⟨0, 0, none⟩ = some (.iface 233 ev) := by rw [World.cell?_setCell_far _ _ _ _ (show w.heap.size ≠ 0 by omega)]; exact ge2
    have h4' : (4000 : Int) < (n : Int) := by omega
    clear lo HE hs hE xR bR
    go_enter Tryz.func15, Tryz.ntmps15
    go_wp2_with fail
    try rw [hWR]
    go_region
    all_goals go_wp2_with fail
    all_goals (
      obtain ⟨Z, hZ, q0, q1, q2, gZ⟩ := HXR.out.fill none none none
      rw [← hZ]
      clear hZ
      refine bodyPost_ret (v := .tuple #[.agg #[.map none, .map none, .map none], .iface 233 ev]) (by simp [results, Tryz.results15, go_sem, q0, q1, q2]) rfl ?_
      rw [← HP.out]
      exact ⟨(HBR.out.grown gZ HBR.out.size (fun k e => by injection e with e; omega)).drew, .inr ⟨HN.out, _, _, rfl⟩⟩)
  · have hmm := @run_makeMap Tryz.prog
    have h4' : ¬ (4000 : Int) < (n : Int) := by omega
    obtain ⟨W, hW⟩ : ∃ W, ((w.alloc (.cells #[.map none, .map none, .map none] 51)).alloc (.map #[] 0)).alloc (.cells #[.slice a n c, .int .i64 0, .map none, .map (some (w.heap.size + 1))] 75) = W := ⟨_, rfl⟩
    have bW : Below w.heap.size w W := by rw [← hW]; exact (bR.alloc (by simp) _).alloc (by simp; omega) _
    have zW : W.heap.size = w.heap.size + 3 := by rw [← hW]; simp
    have xW : LX W w.heap.size := xR.same (by rw [← hW]; exact (Below.heap_alloc _ _ _ (by simp; omega)).trans (Below.heap_alloc _ _ _ (by simp))) (by rw [← hW]; simp)
    have uW : UsM W (w.heap.size + 1) [] := by
      have := (UsM.made (w.alloc (.cells #[.map none, .map none, .map none] 51)))
      rw [← hW]
      have h2 : UsM ((w.alloc (.cells #[.map none, .map none, .map none] 51)).alloc (.map #[] 0)) (w.heap.size + 1) [] := by simpa using this
      exact h2.same (Below.heap_alloc _ _ _ (by simp))
    have cW : Cur (fun i => if i = 2 then some (.map none) else if i = 3 then some (.map (some (w.heap.size + 1))) else none) W (w.heap.size + 2) a n c ((0 : Nat) : Int) := by
      rw [← hW]
      refine ⟨?_, ?_, ?_, fun i hi => ?_⟩
      · rw [World.cell?_alloc_at _ _ _ _ (by simp)]; rfl
      · rw [World.cell?_alloc_at _ _ _ _ (by simp)]; rfl
      · rw [World.frozen?_alloc_at _ _ _ _ (by simp)]
      · rw [World.cell?_alloc_at _ _ _ _ (by simp), World.frozen?_alloc_at _ _ _ _ (by simp)]
        refine ⟨?_, rfl⟩
        match i, hi with
        | 2, _ => rfl
        | 3, _ => rfl
        | j + 4, _ => simp
    have fW : ∀ i, W.frozen? ⟨w.heap.size + 2, i, none⟩ = false := fun i => by rw [← hW, World.frozen?_alloc_at _ _ _ _ (by simp)]
    have hab2 : ∀ y, a = some y → y.block ≠ w.heap.size + 2 := fun y hy => by have := hab y hy; omega
    have HRun := hid (runsC (EX := fun i => if i = 2 then some (.map none) else if i = 3 then some (.map (some (w.heap.size + 1))) else none) (w.heap.size + 2) B a n c ((0 : Nat) : Int) f aT aS aL aE W hn hf cW (hs.below bW) hab2 (hE.below (bW.mono hB)) (by omega))
    have HF := hid hf
    have HSg := hid (hs.below bW)
    have HEr := hid (hE.below (bW.mono hB))
    have HX := hid xW
    have HUs := hid uW
    have HBW := hid bW
    have HZ := hid zW
    have HAB := hid hab
    have HFz := hid fW
    clear hf hs hE xW uW bW zW cW bR xR hab2 hab fW
    go_enter Tryz.func15, Tryz.ntmps15
    go_wp2_with fail
    try rw [hW]
    clear hW hmm
    refine HRun.out.mono ?_
    clear HRun
    rintro e w1 ⟨g1, ⟨g, x1, bm, nn, D, G, hr, rfl, hgr, cu, hbm, hgb⟩ | ⟨hr, pb, u, y, rfl, hpb, hPl, cu⟩⟩
    · have hok := (rdC_in HF.out hr).2.2
      have hLk := lkS_eq hok
      have HLS : Hid (∀ r, Srt (lkS g r) ∧ (lkS g r).length ≤ 1000000) := hid (fun r => by
        rw [hLk]
        have := lkG_len g _ _ hok (by omega) r
        exact ⟨(lkG_ok g _ _ hok r).1, by omega⟩)
      have HCx : Hid (outF (lkS g) 8 = flatG g ∧ (∀ r, lkS g r ≠ [] → 0 ≤ r ∧ r < 8) ∧ ∀ r, (lkS g r).length ≤ 4000) := hid (by
        rw [hLk]
        refine ⟨(groups_ctx hok).2.2.2, fun r hr => ?_, fun r => ?_⟩
        · have := (lkG_ok g _ _ hok r).2.1 hr; omega
        · have := lkG_len g _ _ hok (by omega) r; omega)
      have HOk := hid hok
      have HRd : Hid (gsR f n = (rdTr f n (fun r q => inB (lkS g r) q q) 9 [] [] x1).bind fun b => if b.2 < n then none else some (g, b.1)) := hid (by
        unfold gsR
        rw [if_neg h4, show ((0 : Int)) = ((0 : Nat) : Int) from rfl, hr]
        rfl)
      have zz := HZ.out
      have z1 := g1.size
      have tb1 : w.heap.size + 2 < w1.heap.size := by omega
      obtain ⟨cu0, cu1, cu2, cu3⟩ := cu
      have cm : w1.cell? ⟨w.heap.size + 1 + 1, 2, none⟩ = some (.map none) := (cu3 2 (by omega)).1
      obtain ⟨W2, hW2⟩ : ∃ W2, w1.setCell ⟨w.heap.size + 2, 2, none⟩ (.map (some bm)) = W2 := ⟨_, rfl⟩
      have gS2 : w1.grownBy W2 (some (w.heap.size + 2)) := by rw [← hW2]; exact grownSet w1 ⟨w.heap.size + 2, 2, none⟩ _
      have z2 : W2.heap.size = w1.heap.size := by rw [← hW2]; simp [World.setCell]
      have gA := grown_trans g1 gS2
      have HT2 : Hid (TS W2 (w.heap.size + 2) B bm (w.heap.size + 1) (w.heap.size + 3) w1.heap.size a n c f aT aS aL aE (lkS g) (x1 : Int) []) := hid (by
        refine ⟨?_, HSg.out.grown gA (fun y hy => by have := HAB.out y hy; omega), HEr.out.grown gA (by omega) (by omega), HUs.out.same (gA.block (w.heap.size + 1) (by omega) (fun e => by injection e with e; omega)), ⟨nn, D, G, hgr.gr gS2 (fun e => by injection e with e; omega) (fun r k hk e => by injection e with e; have := hgb r k hk; omega), fun r k hk => ?_⟩, fun y hy => ?_, by omega, by omega, by omega, by omega, by omega, by omega, hgr.own.lt⟩
        · rw [← hW2]
          refine ⟨?_, ?_, ?_, fun i hi => ?_⟩
          · rw [World.cell?_setCell_other _ _ _ _ (by simp)]; exact cu0
          · rw [World.cell?_setCell_other _ _ _ _ (by simp)]; exact cu1
          · rw [World.frozen?_setCell]; exact cu2
          · unfold exT
            by_cases e2 : i = 2
            · subst e2; rw [if_pos rfl]; exact ⟨World.cell?_setCell_same _ _ _ cm, by rw [World.frozen?_setCell]; exact (cu3 2 (by omega)).2⟩
            · have h3 := cu3 i hi
              dsimp only at h3
              rw [if_neg e2] at h3
              rw [if_neg e2, World.cell?_setCell_other _ _ _ _ (by intro e; injection e with e1 e3 e4; exact e2 e3.symm), World.frozen?_setCell]
              exact h3
        · have := (World.ownsRow.lt (hgr.rows r) k hk).2
          have := hgb r k hk
          omega
        · have := HAB.out y hy; omega)
      have HTr : Hid (Calls Tryz.prog 30 #[.pointer (some ⟨w.heap.size + 2, 0, none⟩), .int .i64 0] W2 fun e w' => NdP W2 (w.heap.size + 2) B bm (w.heap.size + 1) (w.heap.size + 3) w1.heap.size a n c f aT aS aL aE (lkS g) [] (rdTr f n (fun r q => inB (lkS g r) q q) 9 [] [] x1) [] 10 e w') :=
        hid (treeC (w.heap.size + 2) B bm (w.heap.size + 1) (w.heap.size + 3) w1.heap.size a n c f aT aS aL aE (lkS g) hn hnc hcc HF.out HLS.out 8 [] rfl x1 [] W2 HT2.out (by omega) (by simp))
      have HX2 := hid (HX.out.same (gA.block w.heap.size HX.out.lt (fun e => by injection e with e; omega)) gA.size)
      have HB2 := hid (HBW.out.grown gA HBW.out.size (fun k e => by injection e with e; omega))
      have fz : w1.frozen? ⟨w.heap.size + 1 + 1, 2, none⟩ = false := (cu3 2 (by omega)).2
      have HHi : Hid (w1.heap.size ≤ W2.heap.size) := hid (by omega)
      clear g1 hr hgr hbm hgb gS2 gA cu0 cu1 cu2 cu3 hok hLk zz z1 tb1
      go_wp2_with fail
      try rw [hW2]
      clear hW2 cm fz
      refine HTr.out.mono ?_
      clear HTr
      rintro e w3 ⟨g3, ⟨J, x3, cnt, N, x0, hJ, rfl, t3, hJ1, hJ2, hJ3, hJ4, hJ5⟩ | ⟨hJ, t, v, rfl⟩⟩
      · obtain ⟨s1, s2⟩ := x0
        obtain ⟨W4, hW4⟩ : ∃ W4, w3.alloc (.cells #[.map (some s1), .map (some s2)] 47) = W4 := ⟨_, rfl⟩
        have b4 : Below w3.heap.size w3 W4 := by rw [← hW4]; exact (Below.refl _ _).alloc (Nat.le_refl _) _
        have V4 : Bx2 W4 w3.heap.size (.map (some s1)) (.map (some s2)) := by rw [← hW4]; exact Bx2.made w3 _ _ _
        have T4 := t3.below b4
        have g4 : G2 (w.heap.size + 2) (w.heap.size + 1) W2 W4 := g3.trans (G2.below b4)
        have HX4 := hid (HX2.out.same (g4.block w.heap.size HX2.out.lt (by omega) (by omega)) g4.size)
        have HB4 : Hid (Below w.heap.size w W4) := hid ⟨g4.os.trans HB2.out.os, g4.tape.trans HB2.out.tape, g4.output.trans HB2.out.output, Nat.le_trans HB2.out.size g4.size, fun k hk => (g4.block k (Nat.lt_of_lt_of_le hk HB2.out.size) (by omega) (by omega)).trans (HB2.out.block k hk)⟩
        have hat : W4.cell? ⟨w.heap.size + 1 + 1, 1, none⟩ = some (.int .i64 (x3 : Int)) := T4.cur.2.1
        have n0 := V4.c0
        have n1 := V4.c1
        have HT4 := hid T4
        obtain ⟨u0, k0⟩ := HX4.out.c0
        obtain ⟨u1, k1⟩ := HX4.out.c1
        obtain ⟨u2, k2⟩ := HX4.out.c2
        have f0 := HX4.out.f0
        have hw34 := g3.size
        have hhi := HHi.out
        by_cases h3 : x3 < n
        · have HN : Hid (gsR f n = none) := hid (by rw [HRd.out, hJ]; simp only [List.nil_append, Option.bind_some]; rw [if_pos h3])
          have h3' : (x3 : Int) < (n : Int) := by omega
          obtain ⟨ev, ge⟩ := T4.err.x1
          have lo : 1 < w.heap.size := Nat.lt_of_lt_of_le (Nat.lt_of_lt_of_le (by decide) T4.err.lG) hB
          have far : ∀ (v : World) (i : Nat) (u : Value) (b j : Nat), b ≠ w.heap.size → (v.setCell ⟨w.heap.size, i, none⟩ u).cell? ⟨b, j, none⟩ = v.cell? ⟨b, j, none⟩ := fun v i u b j hne => World.cell?_setCell_far _ _ _ _ (by simpa using hne.symm)
          have ge1 := (far W4 0 (.map none) 1 0 (by omega)).trans ge
          have ge2 := (far _ 1 (.map none) 1 0 (by omega)).trans ge1
          have ge3 := (far _ 2 (.map none) 1 0 (by omega)).trans ge2
          have ha1 := (far W4 0 (.map none) (w.heap.size + 1 + 1) 1 (by omega)).trans hat
          have ha2 := (far _ 1 (.map none) (w.heap.size + 1 + 1) 1 (by omega)).trans ha1
          have ha3 := (far _ 2 (.map none) (w.heap.size + 1 + 1) 1 (by omega)).trans ha2
          have bP : Below W4.heap.size W4 (W4.alloc (.cells #[.string ⟨#[101, 110, 100]⟩, .int .i64 (x3 : Int), .iface 233 ev] 82)) := (Below.refl _ _).alloc (Nat.le_refl _) _
          have HXP := hid (HX4.out.same (bP.block w.heap.size HX4.out.lt) bP.size)
          have HBP := hid (HB4.out.trans (bP.mono HB4.out.size))
          obtain ⟨v0, l0⟩ := HXP.out.c0
          obtain ⟨v1, l1⟩ := HXP.out.c1
          obtain ⟨v2, l2⟩ := HXP.out.c2
          have fP := HXP.out.f0
          clear far lo b4 V4 T4 g4 g3 t3 hJ hJ1 hJ2 hJ3 hJ4 hJ5 bP
          go_wp2_with fail
          try rw [hW4]
          go_region
          all_goals go_wp2_with fail
          all_goals first
            | (obtain ⟨Z, hZ, q0, q1, q2, gZ⟩ := HXP.out.fill none none none
               rw [← hZ]
               clear hZ
               refine bodyPost_ret (v := .tuple #[.agg #[.map none, .map none, .map none], .iface 80 (.pointer (some ⟨W4.heap.size, 0, none⟩))]) (by simp [results, Tryz.results15, go_sem, q0, q1, q2]) rfl ?_
               rw [← HP.out]
               exact ⟨(HBP.out.grown gZ HBP.out.size (fun k e => by injection e with e; omega)).drew, .inr ⟨HN.out, _, _, rfl⟩⟩)
            | (obtain ⟨Z, hZ, q0, q1, q2, gZ⟩ := HX4.out.fill none none none
               rw [← hZ]
               clear hZ
               have hlZ : w.heap.size < Z.heap.size := Nat.lt_of_lt_of_le HX4.out.lt gZ.size
               have bQ : Below Z.heap.size Z (Z.alloc (.cells #[.string ⟨#[101, 110, 100]⟩, .int .i64 (x3 : Int), .iface 233 ev] 82)) := (Below.refl _ _).alloc (Nat.le_refl _) _
               have q0' := (bQ.cell (p := ⟨w.heap.size, 0, none⟩) hlZ).trans q0
               have q1' := (bQ.cell (p := ⟨w.heap.size, 1, none⟩) hlZ).trans q1
               have q2' := (bQ.cell (p := ⟨w.heap.size, 2, none⟩) hlZ).trans q2
               have hBZ := HB4.out.grown gZ HB4.out.size (fun k e => by injection e with e; omega)
               refine bodyPost_ret (v := .tuple #[.agg #[.map none, .map none, .map none], .iface 80 (.pointer (some ⟨W4.heap.size, 0, none⟩))]) (by simp [results, Tryz.results15, go_sem, q0', q1', q2']) rfl ?_
               rw [← HP.out]
               exact ⟨(hBZ.trans (bQ.mono hBZ.size)).drew, .inr ⟨HN.out, _, _, rfl⟩⟩)
        · have HY : Hid (gsR f n = some (g, J)) := hid (by rw [HRd.out, hJ]; simp only [List.nil_append, Option.bind_some]; rw [if_neg h3])
          have h3' : ¬ (x3 : Int) < (n : Int) := by omega
          have HLv : Hid (∀ Z, W4.grownBy Z (some w.heap.size) → LvJ Z (s1, s2) bm J (flatG g)) := hid (fun Z gZ => by
            obtain ⟨nn', D', G', q1, q2⟩ := HT4.out.grp
            refine ⟨N, W2.heap.size, cnt, nn', D', G', lkS g, (hJ5.below b4).box k0 gZ, ?_, q1.gr gZ (fun e => by injection e with e; have := HT4.out.kl; omega) (fun r k hk e => by injection e with e; have := (q2 r k hk).1; omega), HCx.out.1, HCx.out.2.1, HCx.out.2.2⟩
            simp only [List.nil_append] at hJ4
            omega)
          clear b4 V4 T4 g4 g3 t3 hJ hJ1 hJ2
          go_wp2_with fail
          try rw [hW4]
          obtain ⟨Z, hZ, q0, q1, q2, gZ⟩ := HX4.out.fill (some s1) (some s2) (some bm)
          rw [← hZ]
          clear hZ
          refine bodyPost_ret (v := .tuple #[.agg #[.map (some s1), .map (some s2), .map (some bm)], .nilIface]) (by simp [results, Tryz.results15, go_sem, q0, q1, q2]) rfl ?_
          rw [← HP.out]
          exact ⟨HB4.out.grown gZ HB4.out.size (fun k e => by injection e with e; omega), .inl ⟨g, J, (s1, s2), bm, HY.out, rfl, HLv.out Z gZ, HOk.out⟩⟩
      · have HN : Hid (gsR f n = none) := hid (by rw [HRd.out, hJ]; rfl)
        have b4 : Below w3.heap.size w3 (w3.alloc (.cells #[.map none, .map none] 47)) := (Below.refl _ _).alloc (Nat.le_refl _) _
        have g4 := g3.trans (G2.below b4)
        have HX4 := hid (HX2.out.same (g4.block w.heap.size HX2.out.lt (by omega) (by omega)) g4.size)
        have HB4 : Hid (Below w.heap.size w (w3.alloc (.cells #[.map none, .map none] 47))) := hid ⟨g4.os.trans HB2.out.os, g4.tape.trans HB2.out.tape, g4.output.trans HB2.out.output, Nat.le_trans HB2.out.size g4.size, fun k hk => (g4.block k (Nat.lt_of_lt_of_le hk HB2.out.size) (by omega) (by omega)).trans (HB2.out.block k hk)⟩
        obtain ⟨u0, k0⟩ := HX4.out.c0
        obtain ⟨u1, k1⟩ := HX4.out.c1
        obtain ⟨u2, k2⟩ := HX4.out.c2
        have f0 := HX4.out.f0
        clear g3 g4 b4 hJ
        go_wp2_with fail
        obtain ⟨Z, hZ, q0, q1, q2, gZ⟩ := HX4.out.fill none none none
        rw [← hZ]
        clear hZ
        refine bodyPost_ret (v := .tuple #[.agg #[.map none, .map none, .map none], .iface t v]) (by simp [results, Tryz.results15, go_sem, q0, q1, q2]) rfl ?_
        rw [← HP.out]
        exact ⟨HB4.out.grown gZ HB4.out.size (fun k e => by injection e with e; omega), .inr ⟨HN.out, _, _, rfl⟩⟩
    · have HN : Hid (gsR f n = none) := hid (by unfold gsR; rw [if_neg h4, show ((0 : Int)) = ((0 : Nat) : Int) from rfl, hr]; rfl)
      have HX1 := hid (HX.out.same (g1.block w.heap.size HX.out.lt (fun e => by injection e with e; omega)) g1.size)
      have HB1 := hid (HBW.out.grown g1 HBW.out.size (fun k e => by injection e with e; omega))
      obtain ⟨u0, k0⟩ := HX1.out.c0
      obtain ⟨u1, k1⟩ := HX1.out.c1
      obtain ⟨u2, k2⟩ := HX1.out.c2
      have f0 := HX1.out.f0
      clear g1 hr cu hPl hpb
      go_wp2_with fail
      obtain ⟨Z, hZ, q0, q1, q2, gZ⟩ := HX1.out.fill none none none
      rw [← hZ]
      clear hZ
      refine bodyPost_ret (v := .tuple #[.agg #[.map none, .map none, .map none], .iface 80 (.pointer (some ⟨pb, 0, none⟩))]) (by simp [results, Tryz.results15, go_sem, q0, q1, q2]) rfl ?_
      rw [← HP.out]
      exact ⟨HB1.out.grown gZ HB1.out.size (fun k e => by injection e with e; omega), .inr ⟨HN.out, _, _, rfl⟩⟩
theorem l2GetC (a : Option Addr) (n c x : Nat) (most : Int) (f : Nat → Int) (w : World) (hn : n ≤ 1048576) (hf : Byt f) (hs : Seg w a n f) (hx : x ≤ n) (hm0 : 0 ≤ most) (hm1 : most ≤ 1000000000000) :
    Calls Tryz.prog 23 #[.slice a n c, .int .i64 (x : Int), .int .i64 most] w fun e w' => Below w.heap.size w w' ∧
      ((∃ V x' : Nat, rd f n x most = some (V, x') ∧ (V : Int) ≤ most ∧ x' ≤ n ∧ e = .returned (.tuple #[.int .i64 (V : Int), .int .i64 (x' : Int), .bool true])) ∨
       (rd f n x most = none ∧ e = .returned (.tuple #[.int .i64 0, .int .i64 (x : Int), .bool false]))) := by
  have hcn := cN_spec f n x
  have HX := hid (specX a n c (cN f n x) (x : Int) f w hn hf hs (by simpa using hcn))
  have hb := gX_bounds (f := f) (n := n) (m := cN f n x) (x := (x : Int)) (by simpa using hcn) hf hn (by omega) (by omega)
  have HR : Hid (rd f n x most = if (gX f n (cN f n x) (x : Int)).2.2 = 0 ∧ ((gX f n (cN f n x) (x : Int)).1 : Int) ≤ most then some ((gX f n (cN f n x) (x : Int)).1, (gX f n (cN f n x) (x : Int)).2.1.toNat) else none) := hid rfl
  obtain ⟨G, hG⟩ : ∃ G, gX f n (cN f n x) (x : Int) = G := ⟨_, rfl⟩
  rw [hG] at HX hb HR
  obtain ⟨V, A, C⟩ := G
  dsimp only at HX hb HR
  obtain ⟨hV, hC, hA0, _⟩ := hb
  clear hs hcn hG
  have e1 : IntKind.u64.wrap most = most := by rw [IntKind.wrap_u64]; omega
  by_cases h0 : C = 0
  · subst h0
    obtain ⟨hA1, hA2⟩ := hA0 rfl
    obtain ⟨x', rfl⟩ : ∃ x' : Nat, A = (x' : Int) := ⟨A.toNat, by omega⟩
    by_cases h1 : (V : Int) ≤ most
    · have HR2 : Hid (rd f n x most = some (V, x')) := by rw [HR.out, if_pos ⟨rfl, h1⟩]; exact hid (by simp)
      have d1 : decide (most < (V : Int)) = false := by simpa using h1
      have e2 : IntKind.i64.wrap (V : Int) = (V : Int) := by rw [IntKind.wrap_i64]; omega
      clear hA0 HR
      go_enter Tryz.func23, Tryz.ntmps23
      go_wp2_with fail
      refine HX.out.mono ?_
      rintro e w1 ⟨rfl, b1⟩
      have HB := hid b1
      clear b1 HX
      go_wp2_with fail
      go_ret3
      exact ⟨HB.out, .inl ⟨V, x', HR2.out, h1, by omega, by first | rfl | rw [e2]⟩⟩
    · have HR2 : Hid (rd f n x most = none) := by rw [HR.out, if_neg (fun h => h1 h.2)]; exact hid rfl
      have d1 : decide (most < (V : Int)) = true := by simp; omega
      clear hA0 HR
      go_enter Tryz.func23, Tryz.ntmps23
      go_wp2_with fail
      refine HX.out.mono ?_
      rintro e w1 ⟨rfl, b1⟩
      have HB := hid b1
      clear b1 HX
      go_wp2_with fail
      go_ret3
      exact ⟨HB.out, .inr ⟨HR2.out, rfl⟩⟩
  · have HR2 : Hid (rd f n x most = none) := by rw [HR.out, if_neg (fun h => h0 h.1)]; exact hid rfl
    have d0 : ((C : Int) == 0) = false := by simp; omega
    clear hA0 HR
    go_enter Tryz.func23, Tryz.ntmps23
    go_wp2_with fail
    refine HX.out.mono ?_
    rintro e w1 ⟨rfl, b1⟩
    have HB := hid b1
    clear b1 HX
    go_wp2_with fail
    go_ret3
    exact ⟨HB.out, .inr ⟨HR2.out, rfl⟩⟩
structure St (w wr : World) (v : Value) (l : List Rn) : Prop where
  c : wr.cell? ⟨w.heap.size + 2, 0, none⟩ = some v
  r : wr.cell? ⟨w.heap.size, 0, none⟩ = some (.slice none 0 0)
  fc : wr.frozen? ⟨w.heap.size + 2, 0, none⟩ = false
  fr : wr.frozen? ⟨w.heap.size, 0, none⟩ = false
  o : FR wr (w.heap.size + 1) v l
  n : v.ownBlock ≠ some (w.heap.size + 2)
  b : Below w.heap.size w wr
  z : w.heap.size + 3 ≤ wr.heap.size
theorem St.below {w wr w1 : World} {v : Value} {l : List Rn} (h : St w wr v l) (hb : Below wr.heap.size wr w1) : St w w1 v l := by
  have hz := h.z
  exact ⟨(hb.cell (p := ⟨w.heap.size + 2, 0, none⟩) (show w.heap.size + 2 < wr.heap.size by omega)).trans h.c, (hb.cell (p := ⟨w.heap.size, 0, none⟩) (show w.heap.size < wr.heap.size by omega)).trans h.r,
    ((bcell hb).2 (w.heap.size + 2) 0 (by omega)).trans h.fc, ((bcell hb).2 w.heap.size 0 (by omega)).trans h.fr, row_below h.o hb, h.n, h.b.trans (hb.mono (by omega)), Nat.le_trans hz hb.size⟩
theorem St.mid {w W w7 : World} {v : Value} {l : List Rn} {ob : Obj} (h : St w W v l) (hg : (W.alloc ob).grownBy w7 v.ownBlock) : w7.cell? ⟨w.heap.size + 2, 0, none⟩ = some v ∧ w7.frozen? ⟨w.heap.size + 2, 0, none⟩ = false := by
  have hb : Below W.heap.size W (W.alloc ob) := (Below.refl _ _).alloc (Nat.le_refl _) _
  have h1 := h.below hb
  have hbk := hg.block (w.heap.size + 2) (by have := h1.z; omega) (fun e => h.n e.symm)
  exact ⟨(World.cell?_of_block hbk).trans h1.c, (World.frozen?_of_block hbk).trans h1.fc⟩
theorem St.app {w W w7 : World} {v v7 : Value} {l : List Rn} {ob : Obj} {x y z : Int} (h : St w W v l) (hown : w7.ownsRow (w.heap.size + 1) 64 3 v7 (l.length + 1) (fCells l ++ [.int .i64 x, .int .i64 y, .int .i64 z]))
    (hg : (W.alloc ob).grownBy w7 v.ownBlock) (hloc : v7.ownBlock = v.ownBlock ∨ v7.ownBlock = some (W.alloc ob).heap.size) : St w (w7.setCell ⟨w.heap.size + 2, 0, none⟩ v7) v7 (l ++ [(x, y, z)]) := by
  have hb : Below W.heap.size W (W.alloc ob) := (Below.refl _ _).alloc (Nat.le_refl _) _
  have h1 := h.below hb
  have hz := h.z
  have z1 := hg.size
  have z2 := h1.z
  have hn : v7.ownBlock ≠ some (w.heap.size + 2) := by
    rcases hloc with e | e
    · rw [e]; exact h.n
    · rw [e]; intro e2; injection e2 with e2; simp at e2; omega
  have hr : some w.heap.size ≠ v.ownBlock := fun e => by have := (World.ownsRow.lt h.o _ e.symm).1; omega
  have hbk := hg.block w.heap.size (by omega) hr
  obtain ⟨q1, q2⟩ := h.mid hg
  refine ⟨World.cell?_setCell_same _ _ _ q1, ?_, ?_, ?_, ?_, hn, ?_, ?_⟩
  · rw [World.cell?_setCell_far _ _ _ _ (by simp)]; exact (World.cell?_of_block hbk).trans h1.r
  · rw [World.frozen?_setCell]; exact q2
  · rw [World.frozen?_setCell]; exact (World.frozen?_of_block hbk).trans h1.fr
  · unfold FR
    rw [fCells_snoc, List.length_append]
    refine World.ownsRow.kept hown (grownSet w7 ⟨w.heap.size + 2, 0, none⟩ v7) ?_
    cases e : v7.ownBlock with
    | none => exact .inl rfl
    | some g => exact .inr (fun e2 => hn (e.trans e2))
  · refine Below.setCell (p := ⟨w.heap.size + 2, 0, none⟩) (h1.b.grown hg (by omega) (fun k hk => by have := (World.ownsRow.lt h.o k hk).1; omega)) (by show w.heap.size ≤ w.heap.size + 2; omega) v7
  · simp [World.setCell]; omega
theorem ldSpans_succ (f : Nat → Int) (n k : Nat) (rep last : Int) (x : Nat) : ldSpans f n rep (k + 1) last x = (rd f n x 1000000000).bind fun a => (rd f n a.2 1000000000).bind fun b => (ldSpans f n rep k (last + 2 + (a.1 : Int) + (b.1 : Int)) b.2).bind fun c => some ((rep, last + 2 + (a.1 : Int), last + 2 + (a.1 : Int) + (b.1 : Int)) :: c.1, c.2) := by rw [ldSpans]
theorem ldReps_succ (f : Nat → Int) (n k : Nat) (x : Nat) : ldReps f n (k + 1) x = (rd f n x 8).bind fun a => (rd f n a.2 1000).bind fun b => (ldSpans f n (a.1 : Int) b.1 (-1) b.2).bind fun c => (ldReps f n k c.2).bind fun d => some (c.1 ++ d.1, d.2) := by rw [ldReps]
theorem l2ReadC (a : Option Addr) (n c x : Nat) (f : Nat → Int) (w : World) (hn : n ≤ 1048576) (hf : Byt f) (hs : Seg w a n f) (hx : x ≤ n) :
    Calls Tryz.prog 12 #[.slice a n c, .int .i64 (x : Int)] w fun e w' => Below w.heap.size w w' ∧
      ((∃ (l : List Rn) (x' : Nat) (v : Value), ldCtx f n x = some (l, x') ∧ x' ≤ n ∧ e = .returned (.tuple #[.agg #[v], .int .i64 (x' : Int), .bool true]) ∧ FR w' w.heap.size v l ∧ l.length ≤ 8000) ∨
       (ldCtx f n x = none ∧ ∃ (ya : Option Addr) (nv cv : Nat) (y : Int), e = .returned (.tuple #[.agg #[.slice ya nv cv], .int .i64 y, .bool false]))) := by
  obtain ⟨i0, hi, hz0, hz1, hz2⟩ := info_parts Tryz.infoRun
  obtain ⟨W, hW⟩ : ∃ W, ((w.alloc (.cells #[.slice none 0 0] 26)).alloc (.cells #[] 64)).alloc (.cells #[.slice (some ⟨w.heap.size + 1, 0, none⟩) 0 0] 26) = W := ⟨_, rfl⟩
  have bW : Below w.heap.size w W := by rw [← hW]; exact (below2 _ _ _).alloc (by simp; omega) _
  have HZ : Hid (W.heap.size = w.heap.size + 3) := by rw [← hW]; exact hid (by simp)
  have HST0 : Hid (St w W (.slice (some ⟨w.heap.size + 1, 0, none⟩) 0 0) []) := by
    have s1 : W.cell? ⟨w.heap.size + 2, 0, none⟩ = some (.slice (some ⟨w.heap.size + 1, 0, none⟩) 0 0) := by rw [← hW, World.cell?_alloc_at _ _ _ _ (by simp)]; rfl
    have s2 : W.cell? ⟨w.heap.size, 0, none⟩ = some (.slice none 0 0) := by rw [← hW, World.cell?_alloc_past _ _ _ (by simp; omega), World.cell?_alloc_past _ _ _ (by simp), World.cell?_alloc_at _ _ _ _ rfl]; rfl
    have s3 : W.frozen? ⟨w.heap.size + 2, 0, none⟩ = false := by rw [← hW, World.frozen?_alloc_at _ _ _ _ (by simp)]
    have s4 : W.frozen? ⟨w.heap.size, 0, none⟩ = false := by rw [← hW, World.frozen?_alloc_past _ _ _ (by simp; omega), World.frozen?_alloc_past _ _ _ (by simp), World.frozen?_alloc_at _ _ _ _ rfl]
    refine hid ⟨s1, s2, s3, s4, ?_, by simp [Value.ownBlock], bW, by have := HZ.out; omega⟩
    have q := World.ownsRow_lit (base := w.heap.size + 1) (e := 64) (size := 3) (w.alloc (.cells #[.slice none 0 0] 26)) #[] 0 (by simp) (by unfold maxLen; omega) rfl
    have q' : ((w.alloc (.cells #[.slice none 0 0] 26)).alloc (.cells #[] 64)).ownsRow (w.heap.size + 1) 64 3 (.slice (some ⟨w.heap.size + 1, 0, none⟩) 0 0) 0 [] := by simpa using q
    rw [← hW]
    exact World.ownsRow.alloc q' _
  have HU := hid (l2GetC a n c x 8 f W hn hf (hs.below bW) hx (by omega) (by omega))
  have HS := hid hs
  clear hs bW
  go_enter Tryz.func12, Tryz.ntmps12
  go_wp2_with fail
  try rw [hW]
  clear hW
  refine HU.out.mono ?_
  rintro e w1 ⟨b1, ⟨V, x1, hr, hV, hx1, rfl⟩ | ⟨hr, rfl⟩⟩
  · have HR : Hid (ldCtx f n x = ldReps f n V x1) := by unfold ldCtx; rw [hr]; exact hid rfl
    have HST1 := hid (HST0.out.below b1)
    clear b1 hr HU HST0 HZ
    go_wp2_with fail
    go_loopw [9, 10, 11] (fun av okv iv wr => ∃ (k : Nat) (v : Value) (l : List Rn), k ≤ V ∧ iv = .int .i64 (k : Int) ∧ Hid (St w wr v l) ∧ l.length ≤ 1000 * k ∧
      ((okv = .bool true ∧ ∃ y : Nat, av = .int .i64 (y : Int) ∧ y ≤ n ∧ Hid (ldReps f n V x1 = (ldReps f n (V - k) y).bind fun d => some (l ++ d.1, d.2))) ∨ (okv = .bool false ∧ (∃ y : Int, av = .int .i64 y) ∧ Hid (ldReps f n V x1 = none)))) (fun _ _ iv _ => V - (intOf iv).toNat)
    case atStart => exact ⟨0, _, [], Nat.zero_le _, rfl, HST1, by simp, .inl ⟨rfl, x1, rfl, hx1, hid (by cases h : ldReps f n (V - 0) x1 <;> simp_all)⟩⟩
    case round =>
      obtain ⟨k, v, l, hk, rfl, hst, hll, ⟨rfl, y, rfl, hyn, hrd⟩ | ⟨rfl, ⟨y, rfl⟩, hrd⟩⟩ := hrel
      · by_cases hlt : k < V
        · obtain ⟨m, hm⟩ : ∃ m, V - k = m + 1 := ⟨V - k - 1, by omega⟩
          have HM := hid hm
          have HU1 := hid (l2GetC a n c y 8 f wr hn hf (HS.out.below hst.out.b) hyn (by omega) (by omega))
          clear hm
          go_wp2_with fail
          refine HU1.out.mono ?_
          rintro e w2 ⟨b2, ⟨R, x2, hr2, hR, hx2, rfl⟩ | ⟨hr2, rfl⟩⟩
          · have HR2 := hid hr2
            have HST2 := hid (hst.out.below b2)
            have HU2 := hid (l2GetC a n c x2 1000 f w2 hn hf (HS.out.below HST2.out.b) hx2 (by omega) (by omega))
            clear b2 hr2 HU1
            go_wp2_with fail
            refine HU2.out.mono ?_
            rintro e w3 ⟨b3, ⟨C, x3, hr3, hC, hx3, rfl⟩ | ⟨hr3, rfl⟩⟩
            · have HR3 := hid hr3
              have HST3 := hid (HST2.out.below b3)
              clear b3 hr3 HU2 HST2
              go_wp2_with fail
              go_loopw [9, 10, 14, 15] (fun av okv lv iv wq => ∃ (t : Nat) (v : Value) (l' : List Rn) (last : Int), t ≤ C ∧ iv = .int .i64 (t : Int) ∧ lv = .int .i64 last ∧ -1 ≤ last ∧ last ≤ 2000000002 * (t : Int) ∧ Hid (St w wq v l') ∧ l'.length ≤ 1000 * k + t ∧
                ((okv = .bool true ∧ ∃ (y : Nat) (lt : List Rn), av = .int .i64 (y : Int) ∧ y ≤ n ∧ Hid (l' = l ++ lt) ∧ Hid (ldSpans f n (R : Int) C (-1) x3 = (ldSpans f n (R : Int) (C - t) last y).bind fun d => some (lt ++ d.1, d.2))) ∨ (okv = .bool false ∧ (∃ y : Int, av = .int .i64 y) ∧ Hid (ldSpans f n (R : Int) C (-1) x3 = none)))) (fun _ _ _ iv _ => C - (intOf iv).toNat)
              case atStart => exact ⟨0, v, l, -1, Nat.zero_le _, rfl, rfl, by omega, by omega, HST3, by omega, .inl ⟨rfl, x3, [], rfl, hx3, hid (by simp), hid (by cases h : ldSpans f n (R : Int) (C - 0) (-1) x3 <;> simp_all)⟩⟩
              case round =>
                clear hst HST3
                obtain ⟨t, v, l', last, ht, rfl, rfl, hla0, hla1, hst, hll', ⟨rfl, y', lt, rfl, hyn', hle, hrs⟩ | ⟨rfl, ⟨y', rfl⟩, hrs⟩⟩ := hrel
                · by_cases htl : t < C
                  · obtain ⟨q, hq⟩ : ∃ q, C - t = q + 1 := ⟨C - t - 1, by omega⟩
                    have HQ := hid hq
                    have HU3 := hid (l2GetC a n c y' 1000000000 f wr hn hf (HS.out.below hst.out.b) hyn' (by omega) (by omega))
                    clear hq
                    go_wp2_with fail
                    refine HU3.out.mono ?_
                    rintro e w4 ⟨b4, ⟨G, x4, hr4, hG, hx4, rfl⟩ | ⟨hr4, rfl⟩⟩
                    · have HST4 := hid (hst.out.below b4)
                      have HU4 := hid (l2GetC a n c x4 1000000000 f w4 hn hf (HS.out.below HST4.out.b) hx4 (by omega) (by omega))
                      have HR4 := hid hr4
                      clear b4 hr4 HU3 hst
                      go_wp2_with fail
                      refine HU4.out.mono ?_
                      rintro e w5 ⟨b5, ⟨Z, x5, hr5, hZ, hx5, rfl⟩ | ⟨hr5, rfl⟩⟩
                      · have HRS : Hid (ldSpans f n (R : Int) C (-1) x3 = (ldSpans f n (R : Int) (C - (t + 1)) (last + 2 + (G : Int) + (Z : Int)) x5).bind fun d => some (lt ++ [((R : Int), last + 2 + (G : Int), last + 2 + (G : Int) + (Z : Int))] ++ d.1, d.2)) := by
                          refine hid ?_
                          rw [hrs.out, HQ.out, ldSpans_succ, HR4.out, Option.bind_some]
                          dsimp only
                          rw [hr5, show C - (t + 1) = q from by have := HQ.out; omega]
                          simp only [Option.bind_some]
                          cases ldSpans f n (R : Int) q (last + 2 + (G : Int) + (Z : Int)) x5 with
                          | none => rfl
                          | some d => simp
                        have e1 : IntKind.i64.wrap (last + 2) = last + 2 := wrapIn _ (by omega) (by omega)
                        have e2 : IntKind.i64.wrap (last + 2 + (G : Int)) = last + 2 + (G : Int) := wrapIn _ (by omega) (by omega)
                        have e3 : IntKind.i64.wrap (last + 2 + (G : Int) + (Z : Int)) = last + 2 + (G : Int) + (Z : Int) := wrapIn _ (by omega) (by omega)
                        have hst5 := HST4.out.below b5
                        have HST := hid hst5
                        have c5 := hst5.c
                        have fc5 := hst5.fc
                        have z5 := hst5.z
                        clear b5 hr5 HU4 HST4 hrs hrd hst5
                        go_wp2_with (at_builtin; refine wpList_app_at rfl _ _ 24 rfl (w.heap.size + 1) 64 i0 _ 3 24 Tryz.underlying24 hi hz0 hz1 hz2 rfl (by decide) _ _ _ rfl (World.ownsRow.alloc HST.out.o _) ⟨w5.heap.size, 0, none⟩ 1 1 [.int .i64 (R : Int), .int .i64 (last + 2 + (G : Int)), .int .i64 (last + 2 + (G : Int) + (Z : Int))] rfl rfl ?c1 ?c2 ?c3 ?c4 ?c5 ?_)
                        case c1 => exact cell_three_new _ _ _ _ _
                        case c2 => intro u hu; simp at hu; rcases hu with rfl | rfl | rfl <;> rfl
                        case c3 => unfold maxLen; omega
                        case c4 => omega
                        case c5 => simp; omega
                        intro v7 w7 hown7 hgr7 hloc7
                        obtain ⟨y7, m7, c7, rfl⟩ := row_form hown7
                        obtain ⟨q1, q2⟩ := HST.out.mid hgr7
                        have HST7 := hid (HST.out.app hown7 hgr7 (by simpa using hloc7))
                        have h17 : (l' ++ [((R : Int), last + 2 + (G : Int), last + 2 + (G : Int) + (Z : Int))]).length = l'.length + 1 := by simp
                        have HW := hid h17
                        clear hown7 hgr7 hloc7 c5 fc5 h17
                        go_wp2_with fail
                        go_roundw
                        case rel => exact ⟨t + 1, _, _, _, htl, by go_num, rfl, by omega, by omega, HST7, by rw [HW.out]; omega, .inl ⟨rfl, x5, lt ++ [((R : Int), last + 2 + (G : Int), last + 2 + (G : Int) + (Z : Int))], rfl, hx5, hid (by rw [hle.out, List.append_assoc]), HRS⟩⟩
                        case measure => simp [intOf]; omega
                      · have HRS : Hid (ldSpans f n (R : Int) C (-1) x3 = none) := by
                          refine hid ?_
                          rw [hrs.out, HQ.out, ldSpans_succ, HR4.out, Option.bind_some]
                          dsimp only
                          rw [hr5]; rfl
                        have e1 : IntKind.i64.wrap (last + 2) = last + 2 := wrapIn _ (by omega) (by omega)
                        have e2 : IntKind.i64.wrap (last + 2 + (G : Int)) = last + 2 + (G : Int) := wrapIn _ (by omega) (by omega)
                        have hst5 := HST4.out.below b5
                        have HST := hid hst5
                        have c5 := hst5.c
                        have fc5 := hst5.fc
                        have z5 := hst5.z
                        clear b5 hr5 HU4 HST4 hrs hrd hst5
                        go_wp2_with (at_builtin; refine wpList_app_at rfl _ _ 24 rfl (w.heap.size + 1) 64 i0 _ 3 24 Tryz.underlying24 hi hz0 hz1 hz2 rfl (by decide) _ _ _ rfl (World.ownsRow.alloc HST.out.o _) ⟨w5.heap.size, 0, none⟩ 1 1 [.int .i64 (R : Int), .int .i64 (last + 2 + (G : Int)), .int .i64 (last + 2 + (G : Int))] rfl rfl ?d1 ?d2 ?d3 ?d4 ?d5 ?_)
                        case d1 => exact cell_three_new _ _ _ _ _
                        case d2 => intro u hu; simp at hu; rcases hu with rfl | rfl | rfl <;> rfl
                        case d3 => unfold maxLen; omega
                        case d4 => omega
                        case d5 => simp; omega
                        intro v7 w7 hown7 hgr7 hloc7
                        obtain ⟨y7, m7, c7, rfl⟩ := row_form hown7
                        obtain ⟨q1, q2⟩ := HST.out.mid hgr7
                        have HST7 := hid (HST.out.app hown7 hgr7 (by simpa using hloc7))
                        have h17 : (l' ++ [((R : Int), last + 2 + (G : Int), last + 2 + (G : Int))]).length = l'.length + 1 := by simp
                        have HW := hid h17
                        clear hown7 hgr7 hloc7 c5 fc5 h17
                        go_wp2_with fail
                        go_roundw
                        case rel => exact ⟨t + 1, _, _, _, htl, by go_num, rfl, by omega, by omega, HST7, by rw [HW.out]; omega, .inr ⟨rfl, ⟨_, rfl⟩, HRS⟩⟩
                        case measure => simp [intOf]; omega
                    · have HRS : Hid (ldSpans f n (R : Int) C (-1) x3 = none) := by
                        refine hid ?_
                        rw [hrs.out, HQ.out, ldSpans_succ, hr4]; rfl
                      have e1 : IntKind.i64.wrap (last + 2) = last + 2 := wrapIn _ (by omega) (by omega)
                      have hst5 := hst.out.below b4
                      have HST := hid hst5
                      have c5 := hst5.c
                      have fc5 := hst5.fc
                      have z5 := hst5.z
                      clear b4 hr4 HU3 hst hrs hrd hst5
                      go_wp2_with (at_builtin; refine wpList_app_at rfl _ _ 24 rfl (w.heap.size + 1) 64 i0 _ 3 24 Tryz.underlying24 hi hz0 hz1 hz2 rfl (by decide) _ _ _ rfl (World.ownsRow.alloc HST.out.o _) ⟨w4.heap.size, 0, none⟩ 1 1 [.int .i64 (R : Int), .int .i64 (last + 2), .int .i64 (last + 2)] rfl rfl ?f1 ?f2 ?f3 ?f4 ?f5 ?_)
                      case f1 => exact cell_three_new _ _ _ _ _
                      case f2 => intro u hu; simp at hu; rcases hu with rfl | rfl | rfl <;> rfl
                      case f3 => unfold maxLen; omega
                      case f4 => omega
                      case f5 => simp; omega
                      intro v7 w7 hown7 hgr7 hloc7
                      obtain ⟨y7, m7, c7, rfl⟩ := row_form hown7
                      obtain ⟨q1, q2⟩ := HST.out.mid hgr7
                      have HST7 := hid (HST.out.app hown7 hgr7 (by simpa using hloc7))
                      have h17 : (l' ++ [((R : Int), last + 2, last + 2)]).length = l'.length + 1 := by simp
                      have HW := hid h17
                      clear hown7 hgr7 hloc7 c5 fc5 h17
                      go_wp2_with fail
                      go_roundw
                      case rel => exact ⟨t + 1, _, _, _, htl, by go_num, rfl, by omega, by omega, HST7, by rw [HW.out]; omega, .inr ⟨rfl, ⟨_, rfl⟩, HRS⟩⟩
                      case measure => simp [intOf]; omega
                  · obtain rfl : t = C := by omega
                    have HRD : Hid (ldReps f n V x1 = (ldReps f n (V - (k + 1)) y').bind fun d => some (l' ++ d.1, d.2)) := by
                      refine hid ?_
                      have hs0 : ldSpans f n (R : Int) t (-1) x3 = some (lt, y') := by rw [hrs.out, Nat.sub_self]; simp [ldSpans]
                      rw [hrd.out, HM.out, ldReps_succ, HR2.out, Option.bind_some]
                      dsimp only
                      rw [HR3.out, Option.bind_some]
                      dsimp only
                      rw [hs0, show V - (k + 1) = m from by have := HM.out; omega, hle.out]
                      simp only [Option.bind_some]
                      cases ldReps f n m y' with
                      | none => rfl
                      | some d => simp
                    clear hrs hrd hle
                    go_wp2_with fail
                    go_roundw
                    case rel => exact ⟨k + 1, v, l', hlt, by go_num, hst, by omega, .inl ⟨rfl, y', rfl, hyn', HRD⟩⟩
                    case measure => simp [intOf]; omega
                · have HRD : Hid (ldReps f n V x1 = none) := by
                    refine hid ?_
                    rw [hrd.out, HM.out, ldReps_succ, HR2.out, Option.bind_some]
                    dsimp only
                    rw [HR3.out, Option.bind_some]
                    dsimp only
                    rw [hrs.out]; rfl
                  clear hrs hrd
                  go_wp2_with fail
                  go_roundw
                  case rel => exact ⟨k + 1, v, l', hlt, by go_num, hst, by omega, .inr ⟨rfl, ⟨_, rfl⟩, HRD⟩⟩
                  case measure => simp [intOf]; omega
            · have HRD : Hid (ldReps f n V x1 = none) := by
                refine hid ?_
                rw [hrd.out, HM.out, ldReps_succ, HR2.out, Option.bind_some]
                dsimp only
                rw [hr3]; rfl
              have HST3 := hid (HST2.out.below b3)
              clear b3 hr3 HU2 HST2 hrd hst
              go_wp2_with fail
              refine wp_loop_rounds 1 ?_
              rw [rounds_succ]
              go_wp2_with fail
              go_roundw
              case rel => exact ⟨k + 1, v, l, hlt, by go_num, HST3, by omega, .inr ⟨rfl, ⟨_, rfl⟩, HRD⟩⟩
              case measure => simp [intOf]; omega
          · have HRD : Hid (ldReps f n V x1 = none) := by
              refine hid ?_
              rw [hrd.out, HM.out, ldReps_succ, hr2]; rfl
            have HST2 := hid (hst.out.below b2)
            clear b2 hr2 HU1 hrd hst
            go_wp2_with fail
            refine wp_loop_rounds 1 ?_
            rw [rounds_succ]
            go_wp2_with fail
            go_roundw
            case rel => exact ⟨k + 1, v, l, hlt, by go_num, HST2, by omega, .inr ⟨rfl, ⟨_, rfl⟩, HRD⟩⟩
            case measure => simp [intOf]; omega
        · obtain rfl : k = V := by omega
          have HRD : Hid (ldCtx f n x = some (l, y)) := by
            refine hid ?_
            rw [HR.out, hrd.out, Nat.sub_self]
            simp [ldReps]
          obtain ⟨yv, nv, cv, rfl⟩ := row_form hst.out.o
          have c5 := hst.out.c
          have r5 := hst.out.r
          have fr5 := hst.out.fr
          clear hrd
          go_wp2_with fail
          have k4 := World.cell?_setCell_same wr ⟨w.heap.size, 0, none⟩ (.slice yv nv cv) r5
          have HF : Hid (FR (wr.setCell ⟨w.heap.size, 0, none⟩ (.slice yv nv cv)) w.heap.size (.slice yv nv cv) l) := by
            have h1 := hst.out.o
            have h2 : FR wr w.heap.size (.slice yv nv cv) l := by
              obtain ⟨q1, q2⟩ := h1
              refine ⟨q1, q2.imp id ?_⟩
              rintro ⟨g', cap, cur, e, hg, r⟩
              exact ⟨g', cap, cur, e, by omega, r⟩
            refine hid (World.ownsRow.kept h2 (grownSet wr ⟨w.heap.size, 0, none⟩ (.slice yv nv cv)) ?_)
            cases e : (Value.slice yv nv cv).ownBlock with
            | none => exact .inl rfl
            | some t => exact .inr (fun e2 => by have h3 := (World.ownsRow.lt h1 t e).1; injection e2 with e2; have e2 : t = w.heap.size := e2; omega)
          have HB3 := hid (hst.out.b.setCell (p := ⟨w.heap.size, 0, none⟩) (Nat.le_refl _) (.slice yv nv cv))
          refine bodyPost_ret (v := .tuple #[.agg #[.slice yv nv cv], .int .i64 (y : Int), .bool true]) (by simp [results, Tryz.results12, go_sem, k4]) rfl ?_
          exact ⟨HB3.out, .inl (by first | exact ⟨l, y, .slice yv nv cv, HRD.out, hyn, rfl, HF.out, by omega⟩ | exact ⟨l, y, HRD.out, hyn, .slice yv nv cv, rfl, HF.out, by omega⟩ | exact ⟨l, y, HRD.out, hyn, .slice yv nv cv, rfl, HF.out, by omega⟩)⟩
      · have HRD : Hid (ldCtx f n x = none) := by rw [HR.out]; exact hrd
        obtain ⟨yv, nv, cv, rfl⟩ := row_form hst.out.o
        have c5 := hst.out.c
        have r5 := hst.out.r
        have fr5 := hst.out.fr
        clear hrd
        go_wp2_with fail
        have k4 := World.cell?_setCell_same wr ⟨w.heap.size, 0, none⟩ (.slice yv nv cv) r5
        have HB3 := hid (hst.out.b.setCell (p := ⟨w.heap.size, 0, none⟩) (Nat.le_refl _) (.slice yv nv cv))
        refine bodyPost_ret (v := .tuple #[.agg #[.slice yv nv cv], .int .i64 y, .bool false]) (by simp [results, Tryz.results12, go_sem, k4]) rfl ?_
        exact ⟨HB3.out, .inr ⟨HRD.out, _, _, _, _, rfl⟩⟩
  · have HRD : Hid (ldCtx f n x = none) := by unfold ldCtx; rw [hr]; exact hid rfl
    obtain ⟨c5, r5, fc5, fr5, o5, n5, b5, z5⟩ := HST0.out.below b1
    have HB5 := hid b5
    clear b1 hr HU HST0 HZ o5 n5 b5
    go_wp2_with fail
    refine wp_loop_rounds 1 ?_
    rw [rounds_succ]
    go_wp2_with fail
    have k4 := World.cell?_setCell_same w1 ⟨w.heap.size, 0, none⟩ (.slice (some ⟨w.heap.size + 1, 0, none⟩) 0 0) r5
    have HB3 := hid (HB5.out.setCell (p := ⟨w.heap.size, 0, none⟩) (Nat.le_refl _) (.slice (some ⟨w.heap.size + 1, 0, none⟩) 0 0))
    refine bodyPost_ret (v := .tuple #[.agg #[.slice (some ⟨w.heap.size + 1, 0, none⟩) 0 0], .int .i64 (x : Int), .bool false]) (by simp [results, Tryz.results12, go_sem, k4]) rfl ?_
    exact ⟨HB3.out, .inr ⟨HRD.out, _, _, _, _, rfl⟩⟩
end Go.Proofs.YtakmpmhjcngbbaaGreatDoor
namespace Go.Proofs.YtakmpmhjcngbbaaGreatDoor
open Go.ChangeShapes Go.WideShapes Go.ChangeAt Go.RowKit Go.Deep
theorem Seg.keptR {w w' : World} {a : Option Addr} {n : Nat} {f : Nat → Int} {row : Option Nat} (h : Seg w a n f) (g : w.grownBy w' row) (hab : ∀ y, a = some y → row ≠ some y.block) : Seg w' a n f := by
  rcases h with h | ⟨b, off, rfl, hb, hc⟩
  · exact .inl h
  · exact .inr ⟨b, off, rfl, Nat.lt_of_lt_of_le hb g.size, fun i hi => (World.cell?_of_block (a := ⟨b, off + i, none⟩) (g.block b hb (fun e => hab _ rfl e.symm))).trans (hc i hi)⟩
theorem rd_step {f : Nat → Int} (hf : Byt f) {n x : Nat} {most : Int} {a : Nat × Nat} (h : rd f n x most = some a) : x < a.2 ∧ a.2 ≤ n ∧ (a.1 : Int) ≤ most := by
  obtain ⟨V, x'⟩ := a
  obtain ⟨h1, h2, h3, h4, h5⟩ := (rd_iff hf).1 h
  have := (uvF_len 9 V).2
  exact ⟨by show x < x'; omega, h5, h2⟩
theorem gtX_rd {f : Nat → Int} (hf : Byt f) {n x : Nat} (hn : n ≤ 1048576) {most : Int} (hm : 0 ≤ most) : (∃ s x', rdTx f n x most = some (s, x') ∧ x < x' ∧ x' ≤ n ∧ (s.size : Int) ≤ most ∧ gtX f n (cN f n x) (x : Int) most = (s, (x' : Int), 0)) ∨ (rdTx f n x most = none ∧ ∃ k, 0 < k ∧ k ≤ 4 ∧ gtX f n (cN f n x) (x : Int) most = (⟨#[]⟩, (x : Int), k)) := by
  have hb := gX_bounds (f := f) (n := n) (m := cN f n x) (x := (x : Int)) (by simpa using cN_spec f n x) hf hn
  unfold rdTx gtX
  cases h1 : rd f n x most with
  | none =>
    refine .inr ⟨rfl, ?_⟩
    unfold rd at h1
    by_cases e : (gX f n (cN f n x) (x : Int)).2.2 = 0
    · rw [if_neg (by simpa using e)]
      by_cases e2 : ((gX f n (cN f n x) (x : Int)).1 : Int) ≤ most
      · rw [if_pos ⟨e, e2⟩] at h1; cases h1
      · rw [if_pos (.inr (by omega))]
        exact ⟨4, by omega, by omega, rfl⟩
    · rw [if_pos e]
      refine ⟨_, by omega, ?_, rfl⟩
      by_cases e3 : x < n
      · have := (hb (by omega) (by omega)).2.1; omega
      · rw [gX_out (.inr (by omega))]; show 1 ≤ 4; omega
  | some a =>
    have hs := rd_step hf h1
    unfold rd at h1
    split at h1
    · rename_i he
      have hA := (hb (by omega) (by omega)).2.2.1 he.1
      generalize gX f n (cN f n x) (x : Int) = G at *
      obtain ⟨V, A, C⟩ := G
      simp only [Option.some.injEq] at h1
      subst h1
      simp only at he hA hs ⊢
      obtain ⟨rfl, hV⟩ := he
      simp only [Option.bind_some, ne_eq, not_true_eq_false, if_false]
      rw [if_neg (show ¬ (most < 0 ∨ most < (V : Int)) by omega)]
      by_cases e : A.toNat + V ≤ n
      · rw [if_pos e, if_neg (by omega)]
        refine .inl ⟨strF f A.toNat V, A.toNat + V, rfl, by omega, e, by rw [strF_size]; exact hV, ?_⟩
        congr 2
        omega
      · rw [if_neg e, if_pos (by omega)]
        exact .inr ⟨rfl, 1, by omega, by omega, rfl⟩
    · cases h1
theorem getTextC (a : Option Addr) (n c x : Nat) (most : Int) (f : Nat → Int) (w : World) (hn : n ≤ 1048576) (hnc : n ≤ c) (hf : Byt f) (hs : Seg w a n f) (hx : x ≤ n) (hm0 : 0 ≤ most) (hm1 : most ≤ 1000000) :
    Calls Tryz.prog 24 #[.slice a n c, .int .i64 (x : Int), .int .i64 most] w fun e w' => Below w.heap.size w w' ∧
      ((∃ s x', rdTx f n x most = some (s, x') ∧ x < x' ∧ x' ≤ n ∧ (s.size : Int) ≤ most ∧ e = .returned (.tuple #[.string s, .int .i64 (x' : Int), .int .i64 0])) ∨
       (rdTx f n x most = none ∧ ∃ k : Nat, 0 < k ∧ k ≤ 4 ∧ e = .returned (.tuple #[.string ⟨#[]⟩, .int .i64 (x : Int), .int .i64 (k : Int)]))) := by
  refine (specT a n c (cN f n x) (x : Int) most f w hn hnc hf hs (by simpa using cN_spec f n x) (wfI (by omega) (by omega)) (wfI (by omega) (by omega))).mono ?_
  rintro e w' ⟨rfl, b⟩
  refine ⟨b, ?_⟩
  rcases gtX_rd hf hn hm0 (x := x) with ⟨s, x', h1, h2, h3, h4, h5⟩ | ⟨h1, k, h2, h3, h4⟩
  · exact .inl ⟨s, x', h1, h2, h3, h4, by rw [h5]; rfl⟩
  · exact .inr ⟨h1, k, h2, h3, by rw [h4]⟩
theorem l3PathO (g m c : Nat) (p : List ByteArray) (w : World) (hp : p.length = m) (hm : m ≤ 1048576) (hg : g < w.heap.size) (h : ∀ t, t < m → w.cell? ⟨g, t, none⟩ = some (.string (gS p t))) :
    Calls Tryz.prog 25 #[.slice (some ⟨g, 0, none⟩) m c] w fun e w' => ∃ q cap, e = .returned (.slice (some ⟨q, 0, none⟩) m cap) ∧ Below w.heap.size w w' ∧ w.heap.size ≤ q ∧ w'.ownsRow w.heap.size 9 1 (.slice (some ⟨q, 0, none⟩) m cap) m (sRow p) := by
  obtain ⟨i0, hi, hz0, hz1, hz2⟩ := info_parts infoStr
  have b0 : Below w.heap.size w (w.alloc (.cells #[] 9)) := (Below.refl _ _).alloc (Nat.le_refl _) _
  have ho : (w.alloc (.cells #[] 9)).ownsRow w.heap.size 9 1 (.slice (some ⟨w.heap.size, 0, none⟩) 0 0) 0 [] := by
    have := World.ownsRow_lit (base := w.heap.size) (e := 9) (size := 1) w #[] 0 (Nat.le_refl _) (by unfold maxLen; omega) rfl
    simpa using this
  obtain ⟨q, cap, w', happ, hw, hgr, hq⟩ := copyRowE 41 9 i0 _ 1 16 Tryz.underlying41 hi hz0 hz1 hz2 rfl (by decide) (by omega) w.heap.size g 0 m c (fun t => .string (gS p t)) (w.alloc (.cells #[] 9)) w.heap.size hm ho (by simp) (fun j hj => by rw [Nat.zero_add]; exact (b0.cell (p := ⟨g, j, none⟩) hg).trans (h j (by omega))) (fun _ _ => rfl)
  have HB : Hid (Below w.heap.size w w') := hid (b0.grown hgr b0.size (fun k e => by injection e with e; omega))
  have HW : Hid (w'.ownsRow w.heap.size 9 1 (.slice (some ⟨q, 0, none⟩) m cap) m (sRow p)) := hid (by unfold sRow; rw [hp]; exact hw)
  have HQ : Hid (w.heap.size ≤ q) := hid (by rcases hq with e | e <;> rw [e]; exact Nat.le_refl _; simp)
  clear hw hgr hq h ho b0
  go_enter Tryz.func25, Tryz.ntmps25
  go_wp2_with (at_builtin; refine wpList_app2 rfl _ _ _ _ rfl happ (by rfl) (by rfl) rfl ?_; clear happ)
  go_ret
  exact ⟨q, cap, rfl, HB.out, HQ.out, HW.out⟩
noncomputable def ldLv (f : Nat → Int) (n : Nat) (fl : Bool) (p : List ByteArray) (acc : List Lf) (x : Nat) : Option (List Lf × Nat) := (rd f n x 1000).bind fun a => ldLs f n fl p a.1 acc a.2
def LdP (w : World) (lo : Nat) (vo : Value) (n x : Nat) (acc : List Lf) (R : Option (List Lf × Nat)) (e : Ending) (w' : World) : Prop :=
  ∃ (vo' : Value) (l : List Lf) (y : Nat) (ok : Bool), e = .returned (.tuple #[vo', .int .i64 (y : Int), .bool ok]) ∧ Gr w w' vo vo' ∧ LB w' lo vo' l ∧ LBd l ∧ y ≤ n ∧
    ((ok = true ∧ R = some (l, y) ∧ l.length + x ≤ acc.length + y) ∨ (ok = false ∧ R = none ∧ l.length + x ≤ acc.length + n + 1))
end Go.Proofs.YtakmpmhjcngbbaaGreatDoor
