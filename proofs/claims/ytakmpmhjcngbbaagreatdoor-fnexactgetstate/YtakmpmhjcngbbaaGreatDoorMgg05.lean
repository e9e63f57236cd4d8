import Derived.Test.YtakmpmhjcngbbaaGreatDoorMgg04
import Derived.Test.YtakmpmhjcngbbaaGreatDoorMgg01
import Derived.Deep.QuietTactic
import Derived.BigQuiet
set_option linter.unusedVariables false
set_option linter.unusedSimpArgs false
set_option maxRecDepth 100000
set_option maxHeartbeats 40000000
namespace Go.Proofs.YtakmpmhjcngbbaaGreatDoor
open Go.ChangeShapes Go.WideShapes Go.ChangeAt Go.RowKit
variable {EX : Nat → Option Value}
noncomputable def rdI (f : Nat → Int) (n : Nat) (x most : Int) : Option (Nat × Nat) := if 0 ≤ x then rd f n x.toNat most else none
theorem rdI_nat (f : Nat → Int) (n p : Nat) (most : Int) : rdI f n (p : Int) most = rd f n p most := by
  unfold rdI; rw [if_pos (by omega)]; simp
theorem uvC (cb B : Nat) (a : Option Addr) (n c : Nat) (x : Int) (f : Nat → Int) (aT aS aL aE : Addr) (w : World) (hn : n ≤ 1048576) (hf : Byt f) (hcur : Cur EX w cb a n c x) (hs : Seg w a n f) (hab : ∀ y, a = some y → y.block ≠ cb) (hE : Errs w B aT aS aL aE) (hBc : B ≤ cb) :
    Calls Tryz.prog 70 #[.pointer (some ⟨cb, 0, none⟩)] w fun e w' => w.grownBy w' (some cb) ∧
      ((∃ V x' : Nat, V < 18446744073709551616 ∧ (∀ most : Int, rdI f n x most = if (V : Int) ≤ most then some (V, x') else none) ∧ e = .returned (.tuple #[.int .u64 (V : Int), .nilIface]) ∧ Cur EX w' cb a n c (x' : Int)) ∨
       ((∀ most : Int, rdI f n x most = none) ∧ ∃ (t : TypeId) (v : Value) (y : Int), e = .returned (.tuple #[.int .u64 0, .iface t v]) ∧ Cur EX w' cb a n c y)) := by
  by_cases hx : x < 0 ∨ (n : Int) ≤ x
  · refine (uvOut cb B a n c x aT aS aL aE w hn hcur hx hE).mono ?_
    rintro e w1 ⟨pb, rfl, hpb, hP, b1⟩
    refine ⟨grown_below (grown_refl w (some cb)) b1, .inr ⟨fun most => ?_, _, _, x, rfl, hcur.below b1 hcur.lt⟩⟩
    unfold rdI
    split
    · rename_i h0
      unfold rd
      rw [gX_out (by omega)]
      simp
    · rfl
  · obtain ⟨p, rfl⟩ : ∃ p : Nat, x = (p : Int) := ⟨x.toNat, by omega⟩
    have hp : p < n := by omega
    rcases hs with h | ⟨b, off, rfl, hb, hc⟩
    · omega
    have hm := cN_spec f n p
    have hbb := gX_bounds (x := (p : Int)) (by simpa using hm) hf hn (by omega) (by omega)
    rw [gX_in hp] at hbb
    refine (uvIn cb B b off n c p (cN f n p) f aT aS aL aE w hn hf hcur hp hm hE hBc (hab _ rfl) hb hc).mono ?_
    rintro e w1 ⟨g1, ⟨h0, rfl, cu⟩ | ⟨h0, pb, rfl, hpb, hP, y, cu⟩⟩
    · refine ⟨g1, .inl ⟨guV f n p (cN f n p), guA f n p (cN f n p), hbb.1, fun most => ?_, rfl, cu⟩⟩
      rw [rdI_nat]
      unfold rd
      rw [gX_in hp, h0]
      simp
    · refine ⟨g1, .inr ⟨fun most => ?_, _, _, y, rfl, cu⟩⟩
      rw [rdI_nat]
      unfold rd
      rw [gX_in hp]
      simp [h0]
theorem numberC (cb B : Nat) (a : Option Addr) (n c : Nat) (x most : Int) (f : Nat → Int) (aT aS aL aE : Addr) (w : World) (hn : n ≤ 1048576) (hf : Byt f) (hcur : Cur EX w cb a n c x) (hs : Seg w a n f) (hab : ∀ y, a = some y → y.block ≠ cb) (hE : Errs w B aT aS aL aE) (hBc : B ≤ cb)
    (hm0 : -1000000000000 ≤ most) (hm1 : most ≤ 1000000000000) :
    Calls Tryz.prog 48 #[.pointer (some ⟨cb, 0, none⟩), .int .i64 most] w fun e w' => w.grownBy w' (some cb) ∧
      ((∃ V x' : Nat, rdI f n x most = some (V, x') ∧ (V : Int) ≤ most ∧ e = .returned (.tuple #[.int .i64 (V : Int), .nilIface]) ∧ Cur EX w' cb a n c (x' : Int)) ∨
       (rdI f n x most = none ∧ ∃ (t : TypeId) (v : Value) (y : Int), e = .returned (.tuple #[.int .i64 0, .iface t v]) ∧ Cur EX w' cb a n c y)) := by
  have hcl := hcur.lt
  have HU := hid (uvC cb B a n c x f aT aS aL aE w hn hf hcur hs hab hE hBc)
  have HE := hid hE
  clear hE hcur hs hab
  go_enter Tryz.func48, Tryz.ntmps48
  go_wp2_with fail
  refine HU.out.mono ?_
  rintro e w1 ⟨g1, ⟨V, x', hV, hr, rfl, cu⟩ | ⟨hr, t, v, y, rfl, cu⟩⟩
  · have hE1 := HE.out.below ((Below.refl B w).grown g1 (by omega) (fun k hk => by injection hk with hk; omega))
    obtain ⟨vM, hgM⟩ := hE1.gM
    have HG := hid g1
    have HR := hid hr
    have HC := hid cu
    clear g1 hr cu hE1 HU HE
    by_cases h0 : most < 0
    · go_wp2_with fail
      go_quiet (fail)
      go_wp2_with fail
      go_ret2
      exact ⟨grown_trans HG.out (grown_drewN _ _ _), .inr ⟨by rw [HR.out, if_neg (by omega)], _, _, _, rfl, HC.out.below (below_drewN (Below.refl _ _) _) HC.out.lt⟩⟩
    · have e1 : IntKind.u64.wrap most = most := by rw [IntKind.wrap_u64]; omega
      have d0 : decide (most < 0) = false := by simpa using h0
      by_cases h1 : (V : Int) ≤ most
      · have d1 : decide (most < (V : Int)) = false := by simpa using h1
        have e2 : IntKind.i64.wrap (V : Int) = (V : Int) := by rw [IntKind.wrap_i64]; omega
        go_wp2_with fail
        go_ret2
        refine ⟨HG.out, .inl ⟨V, x', by rw [HR.out, if_pos h1], h1, ?_, HC.out⟩⟩
        first | rfl | rw [e2]
      · have d1 : decide (most < (V : Int)) = true := by simp; omega
        go_wp2_with fail
        go_quiet (fail)
        go_wp2_with fail
        go_ret2
        exact ⟨grown_trans HG.out (grown_drewN _ _ _), .inr ⟨by rw [HR.out, if_neg (by omega)], _, _, _, rfl, HC.out.below (below_drewN (Below.refl _ _) _) HC.out.lt⟩⟩
  · have HG := hid g1
    have HR := hid hr
    have HC := hid cu
    clear g1 hr cu HU HE
    go_wp2_with fail
    go_ret2
    exact ⟨HG.out, .inr ⟨HR.out _, _, _, _, rfl, HC.out⟩⟩
theorem eqRunS (a a' : Option Addr) (n c c' : Nat) (R F T : Nat → Int) (w : World) (hn : n ≤ 1048576) (h : RSeg w a n R F T) (h' : RSeg w a' n R F T) :
    Calls Tryz.prog 34 #[.slice a n c, .slice a' n c'] w fun e w' => e = .returned (.bool true) ∧ Below w.heap.size w w' := by
  by_cases h0 : n = 0
  · subst h0
    go_enter Tryz.func34, Tryz.ntmps34
    go_wp2_with fail
    refine wp_loop_rounds 1 ?_; rw [rounds_succ]; go_wp2_with fail
    go_ret
    exact ⟨rfl, Below.refl _ _⟩
  · rcases h with h | ⟨b, off, rfl, hb, hc⟩
    · exact absurd h h0
    rcases h' with h' | ⟨b', off', rfl, hb', hc'⟩
    · exact absurd h' h0
    go_enter Tryz.func34, Tryz.ntmps34
    go_wp2_with fail
    go_loopw [5] (fun i wr => ∃ k : Nat, k ≤ n ∧ i = .int .i64 k ∧ Below w.heap.size w wr) (fun i _ => n - (intOf i).toNat)
    case atStart => exact ⟨0, Nat.zero_le _, rfl, Below.refl _ _⟩
    case round =>
      obtain ⟨k, hk, rfl, hbel⟩ := hrel
      have zb := Nat.lt_of_lt_of_le hb hbel.size
      have zb' := Nat.lt_of_lt_of_le hb' hbel.size
      by_cases hlt : k < n
      · have x0 : wr.cell? ⟨b, off + k * 3, none⟩ = some (.int .i64 (R k)) := (hbel.cell (p := ⟨b, _, none⟩) hb).trans (hc k hlt).1
        have x1 : wr.cell? ⟨b, off + k * 3 + 1, none⟩ = some (.int .i64 (F k)) := (hbel.cell (p := ⟨b, _, none⟩) hb).trans (hc k hlt).2.1
        have x2 : wr.cell? ⟨b, off + k * 3 + 2, none⟩ = some (.int .i64 (T k)) := (hbel.cell (p := ⟨b, _, none⟩) hb).trans (hc k hlt).2.2
        have y0 : wr.cell? ⟨b', off' + k * 3, none⟩ = some (.int .i64 (R k)) := (hbel.cell (p := ⟨b', _, none⟩) hb').trans (hc' k hlt).1
        have y1 : wr.cell? ⟨b', off' + k * 3 + 1, none⟩ = some (.int .i64 (F k)) := (hbel.cell (p := ⟨b', _, none⟩) hb').trans (hc' k hlt).2.1
        have y2 : wr.cell? ⟨b', off' + k * 3 + 2, none⟩ = some (.int .i64 (T k)) := (hbel.cell (p := ⟨b', _, none⟩) hb').trans (hc' k hlt).2.2
        have hk0 : (0 : Int) ≤ (k : Int) := Int.natCast_nonneg _
        have hk1 : (k : Int) < (n : Int) := by omega
        have HB := hid hbel
        clear hc hc' hbel
        go_wp2_with fail
        refine wp_region_held_drew (S := fun w' => Below wr.heap.size wr w' ∧ w'.cell? ⟨b, off + k * 3, none⟩ = some (.int .i64 (R k)) ∧ w'.cell? ⟨b, off + k * 3 + 1, none⟩ = some (.int .i64 (F k)) ∧ w'.cell? ⟨b, off + k * 3 + 2, none⟩ = some (.int .i64 (T k)) ∧ w'.cell? ⟨b', off' + k * 3, none⟩ = some (.int .i64 (R k)) ∧ w'.cell? ⟨b', off' + k * 3 + 1, none⟩ = some (.int .i64 (F k)) ∧ w'.cell? ⟨b', off' + k * 3 + 2, none⟩ = some (.int .i64 (T k))) (by kernel_rfl) ⟨(Below.refl _ _).drew, x0, x1, x2, y0, y1, y2⟩ (fun hHeld => ?_)
        refine tk 0 17 ?_ (by kernel_rfl) (fun _ _ _ h => h) ?_ hHeld (tk 1 18 ?_ (by kernel_rfl) (fun _ _ _ h => h) ?_ hHeld (tk 2 19 ?_ (by kernel_rfl) (fun _ _ _ h => h) ?_ hHeld (tk 3 20 ?_ (by kernel_rfl) (fun _ _ _ h => h) ?_ hHeld ?_)))
        iterate 4 (rotate_left; focus (intro o ho; simp only [gZa, gZb, gZc, gZd] at ho; subst ho; refine Or.inl ⟨by rfl, ?_⟩; intro w hSw; (try dsimp only at hSw); (try simp only [Act.put, sZa, sZb, sZc]); go_simp; try with_reducible rfl))
        try simp only [Act.put, sZa, sZb, sZc]
        refine tk 4 21 ?_ (by kernel_rfl) (fun _ _ _ h => h) ?_ hHeld (tk 5 22 ?_ (by kernel_rfl) (fun _ _ _ h => h) ?_ hHeld (tk 6 23 ?_ (by kernel_rfl) (fun _ _ _ h => h) ?_ hHeld (tk 7 24 ?_ (by kernel_rfl) (fun _ _ _ h => h) ?_ hHeld ?_)))
        iterate 4 (rotate_left; focus (intro o ho; simp only [gZa, gZb, gZc, gZd] at ho; subst ho; refine Or.inl ⟨by rfl, ?_⟩; intro w hSw; (try dsimp only at hSw); (try simp only [Act.put, sZa, sZb, sZc]); go_simp; try with_reducible rfl))
        try simp only [Act.put, sZa, sZb, sZc]
        refine call1 (i := 8) (d := some 25) (by kernel_rfl) (by kernel_rfl) ?_
        intro o ho hod K hK; simp only [gZa, gZb, gZc, gZd] at ho; subst ho
        go_simp
        refine (eqRun (R k) (F k) (T k) _).mono ?_
        rintro e w2 ⟨rfl, b2⟩
        have hB := keepS hHeld.1 b2
        refine hK.out _ _ ⟨hB, (hB.cell (p := ⟨b, _, none⟩) zb).trans x0, (hB.cell (p := ⟨b, _, none⟩) zb).trans x1, (hB.cell (p := ⟨b, _, none⟩) zb).trans x2, (hB.cell (p := ⟨b', _, none⟩) zb').trans y0, (hB.cell (p := ⟨b', _, none⟩) zb').trans y1, (hB.cell (p := ⟨b', _, none⟩) zb').trans y2⟩ (fun hHeld => ?_)
        clear hK K
        try simp only [Act.put, sZa, sZb, sZc]
        refine tk 9 26 ?_ (by kernel_rfl) (fun _ _ _ h => h) ?_ hHeld ?_
        rotate_left
        · (intro o ho; simp only [gZa, gZb, gZc, gZd] at ho; subst ho; refine Or.inl ⟨by rfl, ?_⟩; intro w hSw; (try dsimp only at hSw); go_simp; try with_reducible rfl)
        try simp only [Act.put, sZa, sZb, sZc]
        refine wpAnyH_done (by kernel_rfl) ?_ _
        have HZ := hid hB
        clear hHeld hB b2
        go_wp2_with fail
        go_roundw
        case rel => exact ⟨k + 1, hlt, by go_num, HB.out.trans (HZ.out.mono HB.out.size)⟩
        case measure => simp [intOf]; omega
      · obtain rfl : k = n := by omega
        have HB := hid hbel
        clear hc hc' hbel
        go_wp2_with fail
        go_ret
        exact ⟨rfl, HB.out⟩
theorem eqContext (a a' : Option Addr) (n c c' : Nat) (R F T : Nat → Int) (w : World) (hn : n ≤ 1048576) (h : RSeg w a n R F T) (h' : RSeg w a' n R F T) :
    Calls Tryz.prog 18 #[.agg #[.slice a n c], .agg #[.slice a' n c']] w fun e w' => e = .returned (.bool true) ∧ Below w.heap.size w w' := by
  have HB := hid (fun (o o' : Obj) => below2 w o o')
  go_enter Tryz.func18, Tryz.ntmps18
  go_wp2_with fail
  refine (eqRunS a a' n c c' R F T _ hn (h.below (HB.out _ _)) (h'.below (HB.out _ _))).mono ?_
  rintro e w1 ⟨rfl, b1⟩
  have HZ := hid (keepS (HB.out _ _) b1)
  clear b1 h h'
  go_wp2_with fail
  go_ret
  exact ⟨rfl, HZ.out⟩
def gS (p : List ByteArray) (i : Nat) : ByteArray := p.getD i ByteArray.empty
def SSeg (w : World) (a : Option Addr) (p : List ByteArray) : Prop :=
  p.length = 0 ∨ ∃ b off, a = some ⟨b, off, none⟩ ∧ b < w.heap.size ∧ ∀ i, i < p.length → w.cell? ⟨b, off + i, none⟩ = some (.string (gS p i))
theorem SSeg.kept {w w1 : World} {B : Nat} {a : Option Addr} {p : List ByteArray} (h : SSeg w a p) (hb : Below B w w1) (hB : w.heap.size ≤ B) : SSeg w1 a p := by
  refine h.imp id ?_
  rintro ⟨b, off, e, hlt, hc⟩
  exact ⟨b, off, e, Nat.lt_of_lt_of_le hlt hb.size, fun i hi => (hb.cell (p := ⟨b, off + i, none⟩) (Nat.lt_of_lt_of_le hlt hB)).trans (hc i hi)⟩
theorem SSeg.below {w w1 : World} {a : Option Addr} {p : List ByteArray} (h : SSeg w a p) (hb : Below w.heap.size w w1) : SSeg w1 a p := h.kept hb (Nat.le_refl _)
structure Lf where
  p : List ByteArray
  fl : Bool
  r : Int
  q : Int
  v : ByteArray
def gL (l : List Lf) (i : Nat) : Lf := l.getD i ⟨[], false, 0, 0, ByteArray.empty⟩
def LSeg (w : World) (a : Option Addr) (l : List Lf) : Prop :=
  l.length = 0 ∨ ∃ b off, a = some ⟨b, off, none⟩ ∧ b < w.heap.size ∧ ∀ i, i < l.length → ∃ pa pc, w.cell? ⟨b, off + i * 5, none⟩ = some (.slice pa (gL l i).p.length pc) ∧ SSeg w pa (gL l i).p ∧ w.cell? ⟨b, off + i * 5 + 1, none⟩ = some (.bool (gL l i).fl) ∧ w.cell? ⟨b, off + i * 5 + 2, none⟩ = some (.int .i64 (gL l i).r) ∧ w.cell? ⟨b, off + i * 5 + 3, none⟩ = some (.int .i64 (gL l i).q) ∧ w.cell? ⟨b, off + i * 5 + 4, none⟩ = some (.string (gL l i).v)
theorem LSeg.below {w w1 : World} {a : Option Addr} {l : List Lf} (h : LSeg w a l) (hb : Below w.heap.size w w1) : LSeg w1 a l := by
  refine h.imp id ?_
  rintro ⟨b, off, e, hlt, hc⟩
  refine ⟨b, off, e, Nat.lt_of_lt_of_le hlt hb.size, fun i hi => ?_⟩
  obtain ⟨pa, pc, c0, s, c1, c2, c3, c4⟩ := hc i hi
  have q := fun o => hb.cell (p := ⟨b, o, none⟩) hlt
  exact ⟨pa, pc, (q _).trans c0, s.below hb, (q _).trans c1, (q _).trans c2, (q _).trans c3, (q _).trans c4⟩
theorem eqStrings (a a' : Option Addr) (c c' : Nat) (p : List ByteArray) (w : World) (hn : p.length ≤ 1048576) (h : SSeg w a p) (h' : SSeg w a' p) :
    Calls Tryz.prog 57 #[.slice a p.length c, .slice a' p.length c'] w fun e w' => e = .returned (.bool true) ∧ Below w.heap.size w w' := by
  by_cases h0 : p.length = 0
  · rw [h0]
    go_enter Tryz.func57, Tryz.ntmps57
    go_wp2_with fail
    refine wp_loop_rounds 1 ?_; rw [rounds_succ]; go_wp2_with fail
    go_ret
    exact ⟨rfl, Below.refl _ _⟩
  · rcases h with h | ⟨b, off, rfl, hb, hc⟩
    · exact absurd h h0
    rcases h' with h' | ⟨b', off', rfl, hb', hc'⟩
    · exact absurd h' h0
    go_enter Tryz.func57, Tryz.ntmps57
    go_wp2_with fail
    go_loopw [5] (fun i wr => ∃ k : Nat, k ≤ p.length ∧ i = .int .i64 k ∧ Below w.heap.size w wr) (fun i _ => p.length - (intOf i).toNat)
    case atStart => exact ⟨0, Nat.zero_le _, rfl, Below.refl _ _⟩
    case round =>
      obtain ⟨k, hk, rfl, hbel⟩ := hrel
      by_cases hlt : k < p.length
      · have x0 := (hbel.cell (p := ⟨b, off + k, none⟩) hb).trans (hc k hlt)
        have y0 := (hbel.cell (p := ⟨b', off' + k, none⟩) hb').trans (hc' k hlt)
        obtain ⟨s, hs⟩ : ∃ s, gS p k = s := ⟨_, rfl⟩
        rw [hs] at x0 y0
        have hk0 : (0 : Int) ≤ (k : Int) := Int.natCast_nonneg _
        have hk1 : (k : Int) < (p.length : Int) := by omega
        have ds : (s.toList == s.toList) = true := by simp
        have HB := hid hbel
        clear hc hc' hbel hs
        go_wp2_with fail
        go_quiet (fail)
        have HN := hid (show Below w.heap.size w (wr.drewN nq) from ⟨HB.out.os, HB.out.tape, HB.out.output, HB.out.size, HB.out.block⟩)
        go_wp2_with fail
        go_roundw
        case rel => exact ⟨k + 1, hlt, by go_num, HN.out⟩
        case measure => simp [intOf]; omega
      · obtain rfl : k = p.length := by omega
        have HB := hid hbel
        clear hc hc' hbel
        go_wp2_with fail
        go_ret
        exact ⟨rfl, HB.out⟩
theorem eqDotC (r q : Int) (w : World) : Calls Tryz.prog 58 #[.agg #[.int .i64 r, .int .i64 q], .agg #[.int .i64 r, .int .i64 q]] w fun e w' => e = .returned (.bool true) ∧ Below w.heap.size w w' := by
  have hr : (r != r) = false := by simp
  have hq : (q != q) = false := by simp
  have HB := hid (((Below.refl w.heap.size w).alloc (Nat.le_refl _) (.cells #[.int .i64 r, .int .i64 q] 87)).alloc (by simp) (.cells #[.int .i64 r, .int .i64 q] 87))
  go_enter Tryz.func58, Tryz.ntmps58
  go_wp2_with fail
  go_ret
  exact ⟨rfl, HB.out⟩
theorem eqLeafC (a a' : Option Addr) (c c' : Nat) (p : List ByteArray) (fl : Bool) (r q : Int) (v : ByteArray) (w : World) (hn : p.length ≤ 1048576) (h : SSeg w a p) (h' : SSeg w a' p) :
    Calls Tryz.prog 33 #[.agg #[.slice a p.length c, .bool fl, .int .i64 r, .int .i64 q, .string v], .agg #[.slice a' p.length c', .bool fl, .int .i64 r, .int .i64 q, .string v]] w fun e w' => e = .returned (.bool true) ∧ Below w.heap.size w w' := by
  obtain ⟨W, hW⟩ : ∃ W, (w.alloc (.cells #[.slice a p.length c, .bool fl, .int .i64 r, .int .i64 q, .string v] 89)).alloc (.cells #[.slice a' p.length c', .bool fl, .int .i64 r, .int .i64 q, .string v] 89) = W := ⟨_, rfl⟩
  have b0 : Below w.heap.size w W := by rw [← hW]; exact ((Below.refl _ _).alloc (Nat.le_refl _) _).alloc (by simp) _
  have zW : W.heap.size = w.heap.size + 2 := by rw [← hW]; simp
  have k0 : W.cell? ⟨w.heap.size, 0, none⟩ = some (.slice a p.length c) := by rw [← hW]; simp
  have l0 : W.cell? ⟨w.heap.size + 1, 0, none⟩ = some (.slice a' p.length c') := by rw [← hW]; simp
  have k1 : W.cell? ⟨w.heap.size, 1, none⟩ = some (.bool fl) := by rw [← hW]; simp
  have k2 : W.cell? ⟨w.heap.size, 2, none⟩ = some (.int .i64 r) := by rw [← hW]; simp
  have k3 : W.cell? ⟨w.heap.size, 3, none⟩ = some (.int .i64 q) := by rw [← hW]; simp
  have k4 : W.cell? ⟨w.heap.size, 4, none⟩ = some (.string v) := by rw [← hW]; simp
  have l1 : W.cell? ⟨w.heap.size + 1, 1, none⟩ = some (.bool fl) := by rw [← hW]; simp
  have l2 : W.cell? ⟨w.heap.size + 1, 2, none⟩ = some (.int .i64 r) := by rw [← hW]; simp
  have l3 : W.cell? ⟨w.heap.size + 1, 3, none⟩ = some (.int .i64 q) := by rw [← hW]; simp
  have l4 : W.cell? ⟨w.heap.size + 1, 4, none⟩ = some (.string v) := by rw [← hW]; simp
  have HE := hid (eqStrings a a' c c' p W hn (h.below b0) (h'.below b0))
  have HB0 := hid b0
  have HZ := hid zW
  have hf : (fl != fl) = false := by simp
  have hv : (v.toList == v.toList) = true := by simp
  clear h h' b0 zW
  go_enter Tryz.func33, Tryz.ntmps33
  go_wp2_with fail
  try rw [hW]
  clear hW
  refine HE.out.mono ?_
  rintro e w1 ⟨rfl, b1⟩
  have q0 := fun (i : Nat) => b1.cell (p := ⟨w.heap.size, i, none⟩) (show w.heap.size < W.heap.size by have := HZ.out; omega)
  have q1 := fun (i : Nat) => b1.cell (p := ⟨w.heap.size + 1, i, none⟩) (show w.heap.size + 1 < W.heap.size by have := HZ.out; omega)
  have m1 := (q0 1).trans k1
  have m2 := (q0 2).trans k2
  have m3 := (q0 3).trans k3
  have m4 := (q0 4).trans k4
  have n1 := (q1 1).trans l1
  have n2 := (q1 2).trans l2
  have n3 := (q1 3).trans l3
  have n4 := (q1 4).trans l4
  have HB1 := hid (keepS HB0.out b1)
  have hz1 : w.heap.size + 1 < w1.heap.size := by have := b1.size; have := HZ.out; omega
  clear q0 q1 k0 k1 k2 k3 k4 l0 l1 l2 l3 l4 b1 HE
  go_wp2_with fail
  refine (eqDotC r q w1).mono ?_
  rintro e w2 ⟨rfl, b2⟩
  have s4 := (b2.cell (p := ⟨w.heap.size, 4, none⟩) (show w.heap.size < w1.heap.size by omega)).trans m4
  have t4 := (b2.cell (p := ⟨w.heap.size + 1, 4, none⟩) hz1).trans n4
  have HB2 := hid (keepS HB1.out b2)
  clear b2 m1 m2 m3 m4 n1 n2 n3 n4
  go_wp2_with fail
  go_ret
  exact ⟨rfl, HB2.out⟩
def LBd (l : List Lf) : Prop := ∀ i, (gL l i).p.length ≤ 1048576
theorem eqLeaves (a a' : Option Addr) (c c' : Nat) (l : List Lf) (w : World) (hn : l.length ≤ 1048576) (hp : LBd l) (h : LSeg w a l) (h' : LSeg w a' l) :
    Calls Tryz.prog 17 #[.slice a l.length c, .slice a' l.length c'] w fun e w' => e = .returned (.bool true) ∧ Below w.heap.size w w' := by
  by_cases h0 : l.length = 0
  · rw [h0]
    go_enter Tryz.func17, Tryz.ntmps17
    go_wp2_with fail
    refine wp_loop_rounds 1 ?_; rw [rounds_succ]; go_wp2_with fail
    go_ret
    exact ⟨rfl, Below.refl _ _⟩
  · rcases h with h | ⟨b, off, rfl, hb, hc⟩
    · exact absurd h h0
    rcases h' with h' | ⟨b', off', rfl, hb', hc'⟩
    · exact absurd h' h0
    go_enter Tryz.func17, Tryz.ntmps17
    go_wp2_with fail
    go_loopw [5] (fun i wr => ∃ k : Nat, k ≤ l.length ∧ i = .int .i64 k ∧ Below w.heap.size w wr) (fun i _ => l.length - (intOf i).toNat)
    case atStart => exact ⟨0, Nat.zero_le _, rfl, Below.refl _ _⟩
    case round =>
      obtain ⟨k, hk, rfl, hbel⟩ := hrel
      have zb := Nat.lt_of_lt_of_le hb hbel.size
      have zb' := Nat.lt_of_lt_of_le hb' hbel.size
      by_cases hlt : k < l.length
      · obtain ⟨pa, pc, c0, s, c1, c2, c3, c4⟩ := hc k hlt
        obtain ⟨pa', pc', d0, s', d1, d2, d3, d4⟩ := hc' k hlt
        have hpk := hp k
        obtain ⟨p, hpe⟩ : ∃ p, (gL l k).p = p := ⟨_, rfl⟩
        obtain ⟨fl, hfl⟩ : ∃ fl, (gL l k).fl = fl := ⟨_, rfl⟩
        obtain ⟨r, hr⟩ : ∃ r, (gL l k).r = r := ⟨_, rfl⟩
        obtain ⟨q, hq⟩ : ∃ q, (gL l k).q = q := ⟨_, rfl⟩
        obtain ⟨v, hv⟩ : ∃ v, (gL l k).v = v := ⟨_, rfl⟩
        rw [hpe] at c0 s d0 s' hpk
        rw [hfl] at c1 d1
        rw [hr] at c2 d2
        rw [hq] at c3 d3
        rw [hv] at c4 d4
        have x0 := (hbel.cell (p := ⟨b, off + k * 5, none⟩) hb).trans c0
        have x1 := (hbel.cell (p := ⟨b, off + k * 5 + 1, none⟩) hb).trans c1
        have x2 := (hbel.cell (p := ⟨b, off + k * 5 + 2, none⟩) hb).trans c2
        have x3 := (hbel.cell (p := ⟨b, off + k * 5 + 3, none⟩) hb).trans c3
        have x4 := (hbel.cell (p := ⟨b, off + k * 5 + 4, none⟩) hb).trans c4
        have y0 := (hbel.cell (p := ⟨b', off' + k * 5, none⟩) hb').trans d0
        have y1 := (hbel.cell (p := ⟨b', off' + k * 5 + 1, none⟩) hb').trans d1
        have y2 := (hbel.cell (p := ⟨b', off' + k * 5 + 2, none⟩) hb').trans d2
        have y3 := (hbel.cell (p := ⟨b', off' + k * 5 + 3, none⟩) hb').trans d3
        have y4 := (hbel.cell (p := ⟨b', off' + k * 5 + 4, none⟩) hb').trans d4
        have HS1 := hid (s.below hbel)
        have HS2 := hid (s'.below hbel)
        have hk0 : (0 : Int) ≤ (k : Int) := Int.natCast_nonneg _
        have hk1 : (k : Int) < (l.length : Int) := by omega
        have HB := hid hbel
        clear hc hc' hbel c0 s c1 c2 c3 c4 d0 s' d1 d2 d3 d4 hpe hfl hr hq hv hp
        go_wp2_with fail
        refine wp_region_held_drew (S := fun w' => Below wr.heap.size wr w' ∧ w'.cell? ⟨b, off + k * 5, none⟩ = some (.slice pa p.length pc) ∧ w'.cell? ⟨b, off + k * 5 + 1, none⟩ = some (.bool fl) ∧ w'.cell? ⟨b, off + k * 5 + 2, none⟩ = some (.int .i64 r) ∧ w'.cell? ⟨b, off + k * 5 + 3, none⟩ = some (.int .i64 q) ∧ w'.cell? ⟨b, off + k * 5 + 4, none⟩ = some (.string v) ∧ w'.cell? ⟨b', off' + k * 5, none⟩ = some (.slice pa' p.length pc') ∧ w'.cell? ⟨b', off' + k * 5 + 1, none⟩ = some (.bool fl) ∧ w'.cell? ⟨b', off' + k * 5 + 2, none⟩ = some (.int .i64 r) ∧ w'.cell? ⟨b', off' + k * 5 + 3, none⟩ = some (.int .i64 q) ∧ w'.cell? ⟨b', off' + k * 5 + 4, none⟩ = some (.string v)) (by kernel_rfl) ⟨(Below.refl _ _).drew, x0, x1, x2, x3, x4, y0, y1, y2, y3, y4⟩ (fun hHeld => ?_)
        refine tk 0 17 ?_ (by kernel_rfl) (fun _ _ _ h => h) ?_ hHeld (tk 1 18 ?_ (by kernel_rfl) (fun _ _ _ h => h) ?_ hHeld (tk 2 19 ?_ (by kernel_rfl) (fun _ _ _ h => h) ?_ hHeld (tk 3 20 ?_ (by kernel_rfl) (fun _ _ _ h => h) ?_ hHeld ?_)))
        iterate 4 (rotate_left; focus (intro o ho; simp only [gZa, gZb, gZc, gZd] at ho; subst ho; refine Or.inl ⟨by rfl, ?_⟩; intro w hSw; (try dsimp only at hSw); (try simp only [Act.put, sZa, sZb, sZc]); go_simp; try with_reducible rfl))
        try simp only [Act.put, sZa, sZb, sZc]
        refine tk 4 21 ?_ (by kernel_rfl) (fun _ _ _ h => h) ?_ hHeld (tk 5 22 ?_ (by kernel_rfl) (fun _ _ _ h => h) ?_ hHeld (tk 6 23 ?_ (by kernel_rfl) (fun _ _ _ h => h) ?_ hHeld (tk 7 24 ?_ (by kernel_rfl) (fun _ _ _ h => h) ?_ hHeld ?_)))
        iterate 4 (rotate_left; focus (intro o ho; simp only [gZa, gZb, gZc, gZd] at ho; subst ho; refine Or.inl ⟨by rfl, ?_⟩; intro w hSw; (try dsimp only at hSw); (try simp only [Act.put, sZa, sZb, sZc]); go_simp; try with_reducible rfl))
        try simp only [Act.put, sZa, sZb, sZc]
        refine call1 (i := 8) (d := some 25) (by kernel_rfl) (by kernel_rfl) ?_
        intro o ho hod K hK; simp only [gZa, gZb, gZc, gZd] at ho; subst ho
        go_simp
        refine (eqLeafC pa pa' pc pc' p fl r q v _ hpk (HS1.out.below hHeld.1) (HS2.out.below hHeld.1)).mono ?_
        rintro e w2 ⟨rfl, b2⟩
        have hB := keepS hHeld.1 b2
        refine hK.out _ _ ⟨hB, (hB.cell (p := ⟨b, _, none⟩) zb).trans x0, (hB.cell (p := ⟨b, _, none⟩) zb).trans x1, (hB.cell (p := ⟨b, _, none⟩) zb).trans x2, (hB.cell (p := ⟨b, _, none⟩) zb).trans x3, (hB.cell (p := ⟨b, _, none⟩) zb).trans x4, (hB.cell (p := ⟨b', _, none⟩) zb').trans y0, (hB.cell (p := ⟨b', _, none⟩) zb').trans y1, (hB.cell (p := ⟨b', _, none⟩) zb').trans y2, (hB.cell (p := ⟨b', _, none⟩) zb').trans y3, (hB.cell (p := ⟨b', _, none⟩) zb').trans y4⟩ (fun hHeld => ?_)
        clear hK K
        try simp only [Act.put, sZa, sZb, sZc]
        refine tk 9 26 ?_ (by kernel_rfl) (fun _ _ _ h => h) ?_ hHeld ?_
        rotate_left
        · (intro o ho; simp only [gZa, gZb, gZc, gZd] at ho; subst ho; refine Or.inl ⟨by rfl, ?_⟩; intro w hSw; (try dsimp only at hSw); go_simp; try with_reducible rfl)
        try simp only [Act.put, sZa, sZb, sZc]
        refine wpAnyH_done (by kernel_rfl) ?_ _
        have HZ := hid hB
        clear hHeld hB b2
        go_wp2_with fail
        go_roundw
        case rel => exact ⟨k + 1, hlt, by go_num, HB.out.trans (HZ.out.mono HB.out.size)⟩
        case measure => simp [intOf]; omega
      · obtain rfl : k = l.length := by omega
        have HB := hid hbel
        clear hc hc' hbel
        go_wp2_with fail
        go_ret
        exact ⟨rfl, HB.out⟩
theorem eqStateC (a a' : Option Addr) (c c' : Nat) (l : List Lf) (x x' : Option Addr) (n d d' : Nat) (R F T : Nat → Int) (w : World) (hn : l.length ≤ 1048576) (hp : LBd l) (hm : n ≤ 1048576) (h : LSeg w a l) (h' : LSeg w a' l) (k : RSeg w x n R F T) (k' : RSeg w x' n R F T) :
    Calls Tryz.prog 7 #[.agg #[.slice a l.length c, .slice x n d], .agg #[.slice a' l.length c', .slice x' n d']] w fun e w' => e = .returned (.bool true) ∧ Below w.heap.size w w' := by
  obtain ⟨W, hW⟩ : ∃ W, (w.alloc (.cells #[.slice a l.length c, .slice x n d] 28)).alloc (.cells #[.slice a' l.length c', .slice x' n d'] 28) = W := ⟨_, rfl⟩
  have b0 : Below w.heap.size w W := by rw [← hW]; exact below2 _ _ _
  have zW : W.heap.size = w.heap.size + 2 := by rw [← hW]; simp
  have k0 : W.cell? ⟨w.heap.size, 0, none⟩ = some (.slice a l.length c) := by rw [← hW]; simp
  have k1 : W.cell? ⟨w.heap.size, 1, none⟩ = some (.slice x n d) := by rw [← hW]; simp
  have l0 : W.cell? ⟨w.heap.size + 1, 0, none⟩ = some (.slice a' l.length c') := by rw [← hW]; simp
  have l1 : W.cell? ⟨w.heap.size + 1, 1, none⟩ = some (.slice x' n d') := by rw [← hW]; simp
  have HL := hid (eqLeaves a a' c c' l W hn hp (h.below b0) (h'.below b0))
  have HK : Hid (∀ w1, Below W.heap.size W w1 → Calls Tryz.prog 18 #[.agg #[.slice x n d], .agg #[.slice x' n d']] w1 fun e w' => e = .returned (.bool true) ∧ Below w1.heap.size w1 w') := hid (fun w1 hb => eqContext x x' n d d' R F T w1 hm ((k.below b0).below hb) ((k'.below b0).below hb))
  have HB0 := hid b0
  have HZ := hid zW
  clear h h' k k' b0 zW
  go_enter Tryz.func7, Tryz.ntmps7
  go_wp2_with fail
  try rw [hW]
  clear hW
  refine HL.out.mono ?_
  rintro e w1 ⟨rfl, b1⟩
  have m1 := (b1.cell (p := ⟨w.heap.size, 1, none⟩) (show w.heap.size < W.heap.size by have := HZ.out; omega)).trans k1
  have n1 := (b1.cell (p := ⟨w.heap.size + 1, 1, none⟩) (show w.heap.size + 1 < W.heap.size by have := HZ.out; omega)).trans l1
  have HB1 := hid b1
  clear b1 k0 k1 l0 l1 HL
  go_wp2_with fail
  refine (HK.out w1 HB1.out).mono ?_
  rintro e w2 ⟨rfl, b2⟩
  have HB2 := hid (keepS HB0.out (keepS HB1.out b2))
  clear b2 m1 n1 HK
  go_wp2_with fail
  go_ret
  exact ⟨rfl, HB2.out⟩
end Go.Proofs.YtakmpmhjcngbbaaGreatDoor
