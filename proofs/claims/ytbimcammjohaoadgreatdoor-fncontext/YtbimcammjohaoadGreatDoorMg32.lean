import Derived.Test.YtbimcammjohaoadGreatDoorMg31
import Derived.Test.YtbimcammjohaoadGreatDoorMg20
import Derived.Test.YtbimcammjohaoadGreatDoorMg29
import Derived.Test.YtbimcammjohaoadGreatDoorMg26
import Derived.Test.YtbimcammjohaoadGreatDoorMg10
namespace Go.Proofs.YtbimcammjohaoadGreatDoor
open Go.ChangeShapes Go.WideShapes Go.ChangeAt Go.RowKit Go.Maps
set_option linter.unusedVariables false
set_option linter.unusedSimpArgs false

theorem GrpAt.toR {w : World} {bm n : Nat} {D : DataW Value} {G : Int → Value} {L : Int → List (Int × Int)} (h : GrpAt w bm n D G L) : GrpR w bm n D G L := ⟨h.own, h.at', h.has', fun r => row_zero (h.rows r)⟩

theorem lkS_fold : ∀ (g : List (Int × List (Int × Int))) (L0 : Int → List (Int × Int)) (r : Int), (g.map Prod.fst).Pairwise (fun x y => x < y) → g.foldl (fun L p => upd L p.1 p.2) L0 r = if r ∈ g.map Prod.fst then lkG g r else L0 r
  | [], L0, r, _ => by simp
  | p :: g, L0, r, h => by
    obtain ⟨h1, h2⟩ := List.pairwise_cons.1 h
    rw [List.foldl_cons, lkS_fold g _ r h2]
    by_cases e : r = p.1
    · subst e
      rw [if_neg (fun hm => by have := h1 _ hm; omega), upd_same, if_pos (by simp)]
      exact (if_pos rfl).symm
    · have e2 : lkG (p :: g) r = lkG g r := if_neg (fun e3 => e e3.symm)
      rw [upd_other _ _ e, e2]
      by_cases hm : r ∈ g.map Prod.fst
      · rw [if_pos hm]; exact (if_pos (List.mem_cons_of_mem _ hm)).symm
      · rw [if_neg hm]; exact (if_neg (fun h3 => by rcases List.mem_cons.1 h3 with h4 | h4; exact e h4; exact hm h4)).symm
theorem lkS_eq {g : List (Int × List (Int × Int))} {before left : Int} (h : okR before left g) : lkS g = lkG g := by
  funext r
  unfold lkS
  rw [lkS_fold g _ r (okR_rise g _ _ h).1]
  split
  · rfl
  · rename_i hm
    have := (lkG_ok g _ _ h r).2.2
    cases e : lkG g r with
    | nil => rfl
    | cons q t => exact absurd (this.2 (by rw [e]; simp)) hm

theorem lkG_len : ∀ (g : List (Int × List (Int × Int))) (before left : Int), okR before left g → 0 ≤ left → ∀ r, ((lkG g r).length : Int) ≤ left
  | [], _, _, _, h0, r => by simpa [lkG] using h0
  | p :: g, before, left, ⟨o1, o2, o3, o4, o5, o6, o7⟩, h0, r => by
    have ih := lkG_len g p.1 _ o7 (by omega) r
    by_cases e : p.1 = r
    · rw [show lkG (p :: g) r = p.2 from if_pos e]; exact o5
    · rw [show lkG (p :: g) r = lkG g r from if_neg e]; omega

noncomputable def rdC (f : Nat → Int) (n : Nat) (x : Int) : Option (List (Int × List (Int × Int)) × Nat) := (rdI f n x 8).bind (fun a => rdReps f n a.1 (-1) 1000 a.2)
theorem rdC_nat (f : Nat → Int) (n p : Nat) : rdC f n (p : Int) = rdCtx f n p := by unfold rdC rdCtx; rw [rdI_nat]
theorem rdC_in {f : Nat → Int} (hf : Byt f) {n : Nat} {x : Int} {g : List (Int × List (Int × Int))} {x' : Nat} (h : rdC f n x = some (g, x')) : 0 ≤ x ∧ x ≤ n ∧ okR (-1) 1000 g := by
  have h0 : 0 ≤ x := by
    rcases Int.lt_or_le x 0 with h0 | h0
    · unfold rdC rdI at h; rw [if_neg (by omega)] at h; cases h
    · exact h0
  obtain ⟨p, rfl⟩ : ∃ p : Nat, x = (p : Int) := ⟨x.toNat, by omega⟩
  rw [rdC_nat] at h
  have hp : p ≤ n := by
    unfold rdCtx at h
    obtain ⟨a, h1, _⟩ := Option.bind_eq_some_iff.1 h
    have := (rd_iff hf).1 (show rd f n p 8 = some (a.1, a.2) from h1)
    omega
  exact ⟨h0, by omega, ((rdCtx_iff hf hp).1 h).1⟩

set_option maxRecDepth 100000 in
set_option maxHeartbeats 1000000 in
theorem runsC (cb B : Nat) (a : Option Addr) (n c : Nat) (x : Int) (f : Nat → Int) (aT aS aL aE : Addr) (w : World) (hn : n ≤ 1048576) (hf : Byt f) (hcur : Cur w cb a n c x) (hs : Seg w a n f) (hab : ∀ y, a = some y → y.block ≠ cb) (hE : Errs w B aT aS aL aE) (hBc : B ≤ cb) :
    Calls Tryz.prog 26 #[.pointer (some ⟨cb, 0, none⟩)] w fun e w' => w.grownBy w' (some cb) ∧
      ((∃ (g : List (Int × List (Int × Int))) (x' bm nn : Nat) (D : DataW Value) (G : Int → Value), rdC f n x = some (g, x') ∧ e = .returned (.tuple #[.map (some bm), .nilIface]) ∧ GrpR w' bm nn D G (lkS g) ∧ Cur w' cb a n c (x' : Int)) ∨
       (rdC f n x = none ∧ ∃ (pb : Nat) (u : Value) (y : Int), e = .returned (.tuple #[.map none, .iface 87 (.pointer (some ⟨pb, 0, none⟩))]) ∧ w.heap.size ≤ pb ∧ Plc w' pb x u ∧ Cur w' cb a n c y)) := by
  have hcl := hcur.lt
  have hmm := @run_makeMap Tryz.prog
  obtain ⟨W, hW⟩ : ∃ W, w.alloc (.map #[] 0) = W := ⟨_, rfl⟩
  have bW : Below w.heap.size w W := by rw [← hW]; exact (Below.refl _ _).alloc (Nat.le_refl _) _
  have HGM : Hid (GrpR W w.heap.size 0 (.map []) (fun _ => .slice none 0 0) (fun _ => [])) := by rw [← hW]; exact hid (grp_made w).toR
  have HU := hid (replicasC cb B w.heap.size a n c x f aT aS aL aE w W _ _ hn hf (hcur.below bW hcl) hs hab hE hBc hcl (Nat.le_refl _) (grown_below (grown_refl w (some cb)) bW) HGM.out (fun r g hg => by cases hg))
  obtain ⟨c0, c1, c2⟩ := hcur
  clear hs hE HGM bW
  go_enter Tryz.func26, Tryz.ntmps26
  go_wp2_with fail
  try rw [hW]
  clear hW hmm
  refine HU.out.mono ?_
  rintro e w1 ⟨g1, ⟨g, x1, nn, D, G, hr, rfl, hgr, cu⟩ | ⟨hr, t, v, y, rfl, cu⟩⟩
  · have HR := hid (show rdC f n x = some (g, x1) from hr)
    have HG := hid g1
    have HC := hid cu
    have HGR := hid hgr
    clear g1 hr cu hgr HU
    go_wp2_with fail
    go_ret2
    exact ⟨HG.out, .inl ⟨g, x1, _, nn, D, G, HR.out, rfl, HGR.out, HC.out⟩⟩
  · have HR := hid (show rdC f n x = none from hr)
    have z1 := g1.size
    have HG := hid g1
    have HC := hid cu
    clear g1 hr cu HU
    go_wp2_with fail
    go_ret2
    have B2 : Below w1.heap.size w1 (w1.alloc (.cells #[.string { data := #[99, 111, 110, 116, 101, 120, 116] }, .int .i64 x, .iface t v] 89)) := (Below.refl _ _).alloc (Nat.le_refl _) _
    exact ⟨grown_below HG.out B2, .inr ⟨HR.out, w1.heap.size, .iface t v, _, rfl, z1, ⟨by simp, by simp, by simp⟩, HC.out.below B2 HC.out.lt⟩⟩

set_option maxRecDepth 100000 in
set_option maxHeartbeats 1000000 in
theorem implGet (B : Nat) (a : Option Addr) (n c : Nat) (x : Int) (f : Nat → Int) (aT aS aL aE : Addr) (w : World) (hn : n ≤ 1048576) (hf : Byt f) (hs : Seg w a n f) (hE : Errs w B aT aS aL aE) (hB : B ≤ w.heap.size) (hab : ∀ y, a = some y → y.block < w.heap.size) :
    Calls Tryz.prog 13 #[.slice a n c, .int .i64 x] w fun e w' => Below w.heap.size w w' ∧
      ((∃ (g : List (Int × List (Int × Int))) (x' : Nat) (v : Value), rdC f n x = some (g, x') ∧ e = .returned (.tuple #[.agg #[v], .int .i64 (x' : Int), .int .i64 0]) ∧ FR w' w.heap.size v (flatG g)) ∨
       (rdC f n x = none ∧ e = .returned (.tuple #[.agg #[.slice none 0 0], .int .i64 x, .int .i64 1]))) := by
  obtain ⟨W, hW⟩ : ∃ W, (w.alloc (.cells #[.slice none 0 0] 25)).alloc (.cells #[.slice a n c, .int .i64 x] 59) = W := ⟨_, rfl⟩
  have bW : Below w.heap.size w W := by rw [← hW]; exact below2 _ _ _
  have HZ : Hid (W.heap.size = w.heap.size + 2) := by rw [← hW]; exact hid (by simp)
  have hcu : Cur W (w.heap.size + 1) a n c x := by rw [← hW]; exact ⟨by simp, by simp, by simp⟩
  have HK : Hid (∀ w1, W.grownBy w1 (some (w.heap.size + 1)) → w1.cell? ⟨w.heap.size, 0, none⟩ = some (.slice none 0 0) ∧ w1.frozen? ⟨w.heap.size, 0, none⟩ = false) := by
    refine hid fun w1 g => ?_
    have hb := g.block w.heap.size (by have := HZ.out; omega) (by simp)
    refine ⟨?_, ?_⟩
    · rw [World.cell?_of_block hb, ← hW]; simp
    · rw [World.frozen?_of_block hb, ← hW]; simp
  have HU := hid (runsC (w.heap.size + 1) B a n c x f aT aS aL aE W hn hf hcu (hs.below bW) (fun y hy e => by have := hab y hy; omega) (hE.below (bW.mono hB)) (by omega))
  have HE := hid hE
  have HBW := hid bW
  clear hs hE hcu bW
  go_enter Tryz.func13, Tryz.ntmps13
  go_wp2_with fail
  try rw [hW]
  clear hW
  refine HU.out.mono ?_
  rintro e w1 ⟨g1, ⟨g, x1, bm, nn, D, G, hr, rfl, hgr, cu⟩ | ⟨hr, pb, u, y, rfl, hpb, hP, cu⟩⟩
  · obtain ⟨k0, k1⟩ := HK.out _ g1
    have HR := hid hr
    have z1 := g1.size
    have HB1 := hid (HBW.out.trans ((Below.refl w.heap.size W).grown g1 (by have := HZ.out; omega) (fun k hk => by injection hk with hk; omega)))
    obtain ⟨x0, x2, hok⟩ := rdC_in hf hr
    have hLk := lkS_eq hok
    have hgc := groups_ctx hok
    have bd : Below w1.heap.size w1 w1.drew := (Below.refl _ _).drew
    have HCX := hid (contextM (hgr.below bd) (fun r hr => by rw [hLk] at hr; have := (lkG_ok g _ _ hok r).2.1 hr; omega) (fun r => by rw [hLk]; have := lkG_len g _ _ hok (by omega) r; omega))
    have HO : Hid (outF (lkS g) 8 = flatG g) := by rw [hLk]; exact hid hgc.2.2.2
    have q1 := cu.2.1
    have hz := HZ.out
    clear g1 hr cu hgr HU hgc hLk hok bd
    go_wp2_with fail
    refine wp_region_held_drew (S := fun w' => w'.cell? ⟨w.heap.size + 1, 1, none⟩ = some (.int .i64 (x1 : Int))) (by kernel_rfl) q1 (fun hHeld => ?_)
    refine take1 (i := 0) (d := some 22) (v := ?_) (by kernel_rfl) (by kernel_rfl) (by kernel_rfl) (by kernel_rfl) (fun _ _ _ h => h) ?_ hHeld ?_
    rotate_left
    · (intro o ho; simp only [List.getElem?_toArray, List.getElem?_cons_succ, List.getElem?_cons_zero, Option.some.injEq] at ho; subst ho; refine Or.inl ⟨by rfl, ?_⟩; intro w hSw; (try dsimp only at hSw); go_simp; try with_reducible rfl)
    try simp only [Act.put, List.setIfInBounds_toArray, List.set_cons_zero, List.set_cons_succ]
    refine take1 (i := 2) (d := some 24) (v := ?_) (by kernel_rfl) (by kernel_rfl) (by kernel_rfl) (by kernel_rfl) (fun _ _ _ h => h) ?_ hHeld ?_
    rotate_left
    · (intro o ho; simp only [List.getElem?_toArray, List.getElem?_cons_succ, List.getElem?_cons_zero, Option.some.injEq] at ho; subst ho; refine Or.inl ⟨by rfl, ?_⟩; intro w hSw; (try dsimp only at hSw); go_simp; try with_reducible rfl)
    try simp only [Act.put, List.setIfInBounds_toArray, List.set_cons_zero, List.set_cons_succ]
    refine take1 (i := 3) (d := some 25) (v := ?_) (by kernel_rfl) (by kernel_rfl) (by kernel_rfl) (by kernel_rfl) (fun _ _ _ h => h) ?_ hHeld ?_
    rotate_left
    · (intro o ho; simp only [List.getElem?_toArray, List.getElem?_cons_succ, List.getElem?_cons_zero, Option.some.injEq] at ho; subst ho; refine Or.inl ⟨by rfl, ?_⟩; intro w hSw; (try dsimp only at hSw); go_simp; try with_reducible rfl)
    try simp only [Act.put, List.setIfInBounds_toArray, List.set_cons_zero, List.set_cons_succ]
    refine call1 (i := 1) (d := some 23) (by kernel_rfl) (by kernel_rfl) ?_
    intro o ho hod K hK; simp only [List.getElem?_toArray, List.getElem?_cons_succ, List.getElem?_cons_zero, Option.some.injEq] at ho; subst ho
    go_simp
    refine HCX.out.mono ?_
    rintro e w2 ⟨v, rfl, hfr, b2⟩
    obtain ⟨yv, nv, cv, rfl⟩ := row_form hfr
    have q2 := (b2.cell (p := ⟨w.heap.size + 1, 1, none⟩) (show w.heap.size + 1 < w1.heap.size by omega)).trans q1
    have k2 := (b2.cell (p := ⟨w.heap.size, 0, none⟩) (show w.heap.size < w1.heap.size by omega)).trans k0
    have k3 : w2.frozen? ⟨w.heap.size, 0, none⟩ = false := ((bcell b2).2 w.heap.size 0 (show w.heap.size < w1.heap.size by omega)).trans k1
    refine hK.out _ _ q2 (fun hHeld => ?_)
    clear hK K
    try simp only [Act.put, List.setIfInBounds_toArray, List.set_cons_zero, List.set_cons_succ]
    refine call1 (i := 4) (d := none) (by kernel_rfl) (by kernel_rfl) ?_
    intro o ho hod K hK; simp only [List.getElem?_toArray, List.getElem?_cons_succ, List.getElem?_cons_zero, Option.some.injEq] at ho; subst ho
    go_simp
    have q3 : (w2.setCell ⟨w.heap.size, 0, none⟩ (.slice yv nv cv)).cell? ⟨w.heap.size + 1, 1, none⟩ = some (.int .i64 (x1 : Int)) := (World.cell?_setCell_far _ _ _ _ (by simp)).trans q2
    refine hK.out _ _ q3 (fun hHeld => ?_)
    clear hK K
    try simp only [Act.put, List.setIfInBounds_toArray, List.set_cons_zero, List.set_cons_succ]
    refine take1 (i := 5) (d := some 5) (v := ?_) (by kernel_rfl) (by kernel_rfl) (by kernel_rfl) (by kernel_rfl) (fun _ _ _ h => h) ?_ hHeld ?_
    rotate_left
    · (intro o ho; simp only [List.getElem?_toArray, List.getElem?_cons_succ, List.getElem?_cons_zero, Option.some.injEq] at ho; subst ho; refine Or.inl ⟨by rfl, ?_⟩; intro w hSw; (try dsimp only at hSw); go_simp; try with_reducible rfl)
    try simp only [Act.put, List.setIfInBounds_toArray, List.set_cons_zero, List.set_cons_succ]
    refine take1 (i := 6) (d := some 6) (v := ?_) (by kernel_rfl) (by kernel_rfl) (by kernel_rfl) (by kernel_rfl) (fun _ _ _ h => h) ?_ hHeld ?_
    rotate_left
    · (intro o ho; simp only [List.getElem?_toArray, List.getElem?_cons_succ, List.getElem?_cons_zero, Option.some.injEq] at ho; subst ho; refine Or.inl ⟨by rfl, ?_⟩; intro w hSw; (try dsimp only at hSw); go_simp; try with_reducible rfl)
    try simp only [Act.put, List.setIfInBounds_toArray, List.set_cons_zero, List.set_cons_succ]
    refine wpAnyH_done (by kernel_rfl) ?_ _
    clear hHeld
    have k4 := World.cell?_setCell_same w2 ⟨w.heap.size, 0, none⟩ (.slice yv nv cv) k2
    have HB2 := hid (HB1.out.drew.trans (b2.mono HB1.out.size))
    have HF : Hid (FR (w2.setCell ⟨w.heap.size, 0, none⟩ (.slice yv nv cv)) w.heap.size (.slice yv nv cv) (flatG g)) := by
      rw [← HO.out]
      have h2 : FR w2 w.heap.size (.slice yv nv cv) (outF (lkS g) 8) := by
        obtain ⟨q1, q2⟩ := hfr
        refine ⟨q1, q2.imp id ?_⟩
        rintro ⟨g', cap, cur, e, hg, r⟩
        exact ⟨g', cap, cur, e, Nat.le_trans (show w.heap.size ≤ w1.heap.size by omega) hg, r⟩
      refine hid (World.ownsRow.kept h2 (grownSet w2 ⟨w.heap.size, 0, none⟩ (.slice yv nv cv)) ?_)
      cases e : (Value.slice yv nv cv).ownBlock with
      | none => exact .inl rfl
      | some t => exact .inr (fun e2 => by have h3 := (World.ownsRow.lt hfr t e).1; injection e2 with e2; have h4 : w1.heap.size ≤ t := h3; have e2 : t = w.heap.size := e2; omega)
    have HB3 := hid (HB2.out.setCell (p := ⟨w.heap.size, 0, none⟩) (Nat.le_refl _) (.slice yv nv cv))
    clear hfr b2 q1 q2 q3 k0 k1 k2 k3 HCX
    go_wp2_with fail
    refine bodyPost_ret (v := .tuple #[.agg #[.slice yv nv cv], .int .i64 (x1 : Int), .int .i64 0]) (by simp [results, Tryz.results13, go_sem, k4]) rfl ?_
    exact ⟨by first | exact HB3.out | exact HB3.out.drew, .inl (by first | exact ⟨g, x1, .slice yv nv cv, HR.out, rfl, HF.out⟩ | exact ⟨g, x1, HR.out, .slice yv nv cv, rfl, HF.out⟩)⟩
  · obtain ⟨k0, k1⟩ := HK.out _ g1
    have HR := hid hr
    have z1 := g1.size
    have HB1 := hid (HBW.out.trans ((Below.refl w.heap.size W).grown g1 (by have := HZ.out; omega) (fun k hk => by injection hk with hk; omega)))
    have HP := hid hP
    have hpl := hP.2.2
    have hz := HZ.out
    clear g1 hr cu HU hP
    go_wp2_with fail
    refine (placeOf pb B x _ aT aS aL aE _ HP.out (HE.out.below (HB1.out.mono hB)) (by omega)).mono ?_
    rintro e w2 ⟨rfl, b2⟩
    have HB2 := hid (HB1.out.trans (b2.mono HB1.out.size))
    have k2 := (b2.cell (p := ⟨w.heap.size, 0, none⟩) (show w.heap.size < w1.heap.size by omega)).trans k0
    have k3 := ((bcell b2).2 w.heap.size 0 (by omega)).trans k1
    clear b2
    go_wp2_with fail
    have k4 := World.cell?_setCell_same w2 ⟨w.heap.size, 0, none⟩ (.slice none 0 0) k2
    exact bodyPost_ret (v := .tuple #[.agg #[.slice none 0 0], .int .i64 x, .int .i64 1]) (by simp [results, Tryz.results13, go_sem, k4]) rfl ⟨HB2.out.setCell (p := ⟨w.heap.size, 0, none⟩) (Nat.le_refl _) _, .inr ⟨HR.out, rfl⟩⟩
end Go.Proofs.YtbimcammjohaoadGreatDoor

namespace Go.Proofs.YtbimcammjohaoadGreatDoor
open Go.ChangeShapes Go.WideShapes Go.ChangeAt Go.RowKit
set_option linter.unusedVariables false
set_option linter.unusedSimpArgs false

def Rd (w : World) (B rb : Nat) : Prop := ∃ (a : Option Addr) (n c : Nat) (f : Nat → Int) (x : Nat), Cur w rb a n c (x : Int) ∧ Seg w a n f ∧ Byt f ∧ n ≤ 1000 ∧ x ≤ n ∧ (0 < n → ∀ y, a = some y → y.block ≠ rb ∧ y.block < B) ∧ rb < B
theorem Rd.below {w w' : World} {B rb : Nat} (h : Rd w B rb) (hb : Below B w w') : Rd w' B rb := by
  obtain ⟨a, n, c, f, x, hc, hs, hf, hn, hx, hne, hB⟩ := h
  refine ⟨a, n, c, f, x, hc.below hb hB, ?_, hf, hn, hx, hne, hB⟩
  rcases hs with hs | ⟨b, off, e, hlt, hcell⟩
  · exact .inl hs
  · by_cases h0 : 0 < n
    · exact .inr ⟨b, off, e, Nat.lt_of_lt_of_le hlt hb.size, fun i hi => (hb.cell (p := ⟨b, off + i, none⟩) (show b < B from (hne h0 _ e).2)).trans (hcell i hi)⟩
    · exact .inl (by omega)
theorem Rd.lt {w : World} {B rb : Nat} (h : Rd w B rb) : rb < w.heap.size ∧ rb < B := by
  obtain ⟨a, n, c, f, x, hc, _, _, _, _, _, hB⟩ := h
  exact ⟨hc.lt, hB⟩

set_option maxRecDepth 100000 in
set_option maxHeartbeats 1000000 in
theorem rdNext (B rb : Nat) (w : World) (h : Rd w B rb) :
    Calls Tryz.prog 28 #[.pointer (some ⟨rb, 0, none⟩)] w fun e w' => ∃ k : Nat, k < 256 ∧ e = .returned (.int .i64 (k : Int)) ∧ Rd w' B rb ∧ w.grownBy w' (some rb) := by
  obtain ⟨a, n, c, f, x, hcur, hs, hf, hn, hx, hne, hBr⟩ := h
  have HC := hid hcur
  have HS := hid hs
  have HF := hid hf
  obtain ⟨k0, k1, k2⟩ := hcur
  by_cases hxn : x < n
  · rcases hs with hs | ⟨b, off, rfl, hb, hc⟩
    · omega
    obtain ⟨z, hz⟩ : ∃ z : Nat, f x = (z : Int) := ⟨(f x).toNat, by have := (hf x).1; omega⟩
    have hz8 : z < 256 := by have := (hf x).2; omega
    have hcx : w.cell? ⟨b, off + x, none⟩ = some (.int .u8 (z : Int)) := by rw [hc x hxn, hz]
    have hbr : b ≠ rb := (hne (by omega) _ rfl).1
    have hx0 : (0 : Int) ≤ (x : Int) := Int.natCast_nonneg _
    have hx1 : (x : Int) < (n : Int) := by omega
    have hwz : IntKind.i64.wrap (z : Int) = (z : Int) := wrapIn _ (by omega) (by omega)
    clear hz hc hf
    go_enter Tryz.func28, Tryz.ntmps28
    go_wp2_with fail
    go_quiet (fail)
    go_wp2_with fail
    go_quiet (fail)
    go_wp2_with fail
    go_ret
    refine ⟨z, hz8, rfl, ⟨_, n, c, f, x + 1, ?_, ?_, HF.out, hn, hxn, hne, hBr⟩, ?_⟩
    · first | exact HC.out.set _ | (simp; exact HC.out.set _)
    · rcases HS.out with h0 | ⟨b1, o1, e1, hb1, hc1⟩
      · exact .inl h0
      · have e2 := e1
        injection e1 with e1
        injection e1 with e1 _ _
        subst e1
        exact .inr ⟨_, o1, e2, by simpa [World.setCell] using hb1, fun i hi => by
          try simp only [World.drewN_drewN]
          rw [World.cell?_setCell_far _ _ _ _ (by simp; omega)]
          exact hc1 i hi⟩
    · first | exact grown_set (grown_drewN _ _ _) _ | (simp; exact grown_set (grown_drewN _ _ _) _)
  · have hd : decide ((x : Int) < (n : Int)) = false := by simp; omega
    go_enter Tryz.func28, Tryz.ntmps28
    go_wp2_with fail
    go_quiet (fail)
    go_wp2_with fail
    go_ret
    exact ⟨0, by omega, rfl, ⟨a, n, c, f, x, HC.out, HS.out, HF.out, hn, hx, hne, hBr⟩, grown_drewN _ _ _⟩

set_option maxRecDepth 100000 in
set_option maxHeartbeats 1000000 in
theorem rdOpen (a : Option Addr) (n c : Nat) (f : Nat → Int) (w : World) (hnc : n ≤ c) (hn : n ≤ 9223372036854775807) (h : Seg w a n f) (hf : Byt f) :
    Calls Tryz.prog 14 #[.slice a n c] w fun e w' => e = .returned (.pointer (some ⟨w.heap.size, 0, none⟩)) ∧ Rd w' (w.heap.size + 1) w.heap.size ∧ Below w.heap.size w w' := by
  have al := fun (o : Obj) => (Below.refl w.heap.size w).alloc (Nat.le_refl _) o
  have HA := hid al
  have HH := hid h
  have HF := hid hf
  clear al
  by_cases h1 : n ≤ 1000
  · clear h hf
    go_enter Tryz.func14, Tryz.ntmps14
    go_wp2_with fail
    go_ret
    refine ⟨rfl, ⟨a, n, c, f, 0, ⟨by simp, by simp, by simp⟩, HH.out.below (HA.out _), HF.out, h1, by omega, fun h0 y hy => ?_, by omega⟩, HA.out _⟩
    rcases HH.out with h2 | ⟨b, off, e, hb, _⟩
    · omega
    · rw [hy] at e; injection e with e; rw [e]; exact ⟨Nat.ne_of_lt hb, Nat.lt_succ_of_lt hb⟩
  · have h2 : 1000 < n := by omega
    rcases h with h | ⟨b, off, rfl, hb, hc⟩
    · omega
    clear hf hc
    go_enter Tryz.func14, Tryz.ntmps14
    go_wp2_with fail
    go_ret
    refine ⟨rfl, ⟨some ⟨b, off, none⟩, 1000, c, f, 0, ⟨by simp, by simp, by simp⟩, ?_, HF.out, by omega, by omega, fun h0 y hy => ?_, by omega⟩, HA.out _⟩
    · rcases (HH.out.below (HA.out _)) with h3 | ⟨b1, o1, e1, hb1, hc1⟩
      · omega
      · exact .inr ⟨b1, o1, e1, hb1, fun i hi => hc1 i (by omega)⟩
    · injection hy with hy; rw [← hy]; exact ⟨Nat.ne_of_lt hb, Nat.lt_succ_of_lt hb⟩

end Go.Proofs.YtbimcammjohaoadGreatDoor
