import Derived.Test.YtcbcabhjododoaaGreatFg40
import Derived.Laws.OwnMore
import Derived.Test.YtcbcabhjododoaaGreatFg39
set_option linter.unusedVariables false
set_option linter.unusedSimpArgs false
set_option maxRecDepth 100000
set_option maxHeartbeats 40000000
namespace Go.Proofs.YtcbcabhjododoaaGreat
open Go.ChangeShapes Go.WideShapes Go.ChangeAt Go.RowKit Go.Maps Go.Sort Go.Lib Go.Shelf
def DOk (ds : List Dt) : Prop := ∀ d ∈ ds, (0 ≤ d.1 ∧ d.1 < 8) ∧ 1 ≤ d.2 ∧ d.2 ≤ 1000000000
theorem RdI.bd {L : Int → List (Int × Int)} {ds : List Dt} (h : RdI L ds) (r : Int) : ∀ q ∈ L r, 0 ≤ q.2 ∧ q.2 ≤ 1000000000 := fun q hq => by
 have := (h.srt r).2 q hq
 omega
theorem runsOfC (a : Option Addr) (cp : Nat) (ds : List Dt) (w : World) (hlen : ds.length ≤ 2000) (hok : DOk ds) (h : DSeg w a ds) :
  Calls Tryz.prog 59 #[.slice a ds.length cp] w fun e w' => (∃ bm n D G L, e = .returned (.map (some bm)) ∧ n ≤ 2000 ∧ GrpAt w' bm n D G L ∧ (∀ r, Srt (L r)) ∧ (∀ r x, In (L r) x ↔ (r, x) ∈ ds) ∧ (∀ r, (L r).length ≤ 2000) ∧ w.heap.size ≤ bm) ∧ RowKit.Below w.heap.size w w' := by
 have hmm := @run_makeMap Tryz.prog
 obtain ⟨w1, hw1⟩ : ∃ w1, w.alloc (.map #[] 0) = w1 := ⟨_, rfl⟩
 have b1 : RowKit.Below w.heap.size w w1 := by rw [← hw1]; exact (RowKit.Below.refl _ _).alloc (Nat.le_refl _) _
 have HG1 : Hid (GrpAt w1 w.heap.size 0 (.map []) (fun _ => .slice none 0 0) (fun _ => [])) := hid (by rw [← hw1]; exact grp_made w)
 have HZ1 : Hid (w1.heap.size = w.heap.size + 1) := hid (by rw [← hw1]; simp)
 have HB1 := hid b1
 have HS1 := hid (h.below b1)
 have HOK := hid hok
 clear b1 h hok
 go_enter Tryz.func59, Tryz.ntmps59
 go_wp2_with fail
 try rw [hw1]
 refine (valuesFnD a ds.length cp w1).mono ?_
 rintro e w2 ⟨rfl, hw2⟩
 have b2 : RowKit.Below w1.heap.size w1 w2 := by rw [hw2]; exact (RowKit.Below.refl _ _).alloc (Nat.le_refl _) _
 have c2 : w2.cell? ⟨w1.heap.size, 0, none⟩ = some (.slice a ds.length cp) := by rw [hw2]; simp
 have z2 : w1.heap.size < w2.heap.size := by rw [hw2]; simp
 have HSF := hid (sortedFuncG _ _ (enters_of Tryz.func100 (by kernel_rfl) rfl) ds.length (fun ss => ss = ds) w2 (by omega) (fun ss e => by rw [e]; exact Nat.le_refl _) (valuesGivesD w1.heap.size cp a ds w2 (by omega) z2 c2 (HS1.out.below b2)))
 have HB2 := hid (keepS HB1.out b2)
 have HB12 := hid b2
 clear hw2 b2 c2 hw1 hmm
 go_wp2_with fail
 refine HSF.out.mono ?_
 rintro e w3 ⟨v, ts, rfl, ⟨ss, rfl, hperm⟩, hsort, hl3, hrow, b3⟩
 obtain ⟨ta, tc, rfl, _, htc1, htc2⟩ := own_dseg hrow
 have HROW := hid hrow
 have HB3 := hid (HB2.out.trans (b3.mono HB2.out.size))
 have HG3 := hid ((HG1.out.below HB12.out).below b3)
 have HP := hid hperm
 have HSO := hid hsort
 have hts : ts.length ≤ 2000 := by rw [hperm.length_eq]; exact hlen
 have HOT : Hid (DOk ts) := hid (fun d hd => HOK.out d (hperm.mem_iff.1 hd))
 have HZ3 : Hid (w.heap.size < w3.heap.size) := hid (by have := HZ1.out; have := HB12.out.size; have := b3.size; omega)
 clear hrow b3 hperm hsort HSF HG1 HS1
 go_wp2_with fail
 go_loopw [11] (fun i wr => ∃ (k : Nat) (D : DataW Value) (G : Int → Value) (L : Int → List (Int × Int)), k ≤ ts.length ∧ i = .int .i64 k ∧ Hid (GrpAt wr w.heap.size k D G L) ∧ Hid (RdI L (ts.take k)) ∧ Hid (RowKit.Below w.heap.size w wr) ∧ Hid (wr.ownsRow w2.heap.size 55 2 (.slice ta ts.length tc) ts.length (Ds.kRow ts)) ∧ Hid (w.heap.size < wr.heap.size)) (fun i _ => ts.length - (intOf i).toNat)
 case atStart => exact ⟨0, _, _, _, Nat.zero_le _, rfl, HG3, hid (by simpa using RdI.nil), HB3, HROW, HZ3⟩
 case round =>
  clear HG3 HB3 HROW HZ3
  obtain ⟨k, D, G, L, hk, rfl, HG, HR, HB, HO, HZ⟩ := hrel
  by_cases hlt : k < ts.length
  ·obtain ⟨r, q, hd⟩ : ∃ r q, gD ts k = (r, q) := ⟨_, _, rfl⟩
   obtain ⟨a', c', e', hseg, _, _⟩ := own_dseg HO.out
   injection e' with e1 e2 e3
   subst e1 e3
   obtain ⟨g, rfl, hg, hc⟩ : ∃ g, ta = some ⟨g, 0, none⟩ ∧ g < wr.heap.size ∧ ∀ i, i < ts.length → wr.cell? ⟨g, i * 2, none⟩ = some (.int .i64 (gD ts i).1) ∧ wr.cell? ⟨g, i * 2 + 1, none⟩ = some (.int .i64 (gD ts i).2) := by
    rcases hseg with h | h
    ·omega
    ·exact h
   have q0 := (hc k hlt).1
   have q1 := (hc k hlt).2
   rw [hd] at q0 q1
   dsimp only at q0 q1
   have hdk := HOT.out _ (gD_mem hlt)
   rw [hd] at hdk
   dsimp only at hdk
   have hwf : (Lit.int .i64 r).wf = true := wfI (by omega) (by omega)
   have HTK : Hid (ts.take (k + 1) = ts.take k ++ [(r, q)]) := hid (by rw [gD_take hlt, hd])
   have HLE : Hid (∀ e ∈ ts.take k, e.1 = r → e.2 ≤ q) := hid (fun e he e1 => by
    obtain ⟨j, hj, ej⟩ := List.getElem_of_mem he
    rw [List.length_take] at hj
    rw [List.getElem_take] at ej
    have hs := List.pairwise_iff_getElem.1 HSO.out j k (by omega) hlt (by omega)
    have ek : ts[k] = (r, q) := by rw [← hd]; simp [gD, List.getD, hlt]
    rw [ej, ek] at hs
    exact cmpDt_le (x := e) (y := (r, q)) hs e1)
   obtain ⟨W1, hW1⟩ : ∃ W1, wr.alloc (.cells #[.int .i64 r, .int .i64 q] 55) = W1 := ⟨_, rfl⟩
   have bW : RowKit.Below wr.heap.size wr W1 := by rw [← hW1]; exact (RowKit.Below.refl _ _).alloc (Nat.le_refl _) _
   have zW : W1.heap.size = wr.heap.size + 1 := by rw [← hW1]; simp
   have X1 : Bx2 W1 wr.heap.size (.int .i64 r) (.int .i64 q) := by rw [← hW1]; exact Bx2.made _ _ _ _
   have r0 := X1.c0
   have r1 := X1.c1
   have g1 := HG.out.below bW.drew
   have hlk := g1.look r hwf
   obtain ⟨G0, hG0⟩ : ∃ G0, G r = G0 := ⟨_, rfl⟩
   rw [hG0] at hlk
   have hsr : SR W1.drew (w.heap.size + 1) G0 (L r) := by rw [← hG0]; exact g1.rows r
   obtain ⟨s0, s1, s2, hform⟩ : ∃ s0 s1 s2, G0 = .slice s0 s1 s2 := row_form hsr
   subst hform
   have HAP := hid (appendSpan (w.heap.size + 1) (.slice s0 s1 s2) (L r) q q W1.drew (by have := HZ.out; show w.heap.size + 1 ≤ W1.heap.size; omega) (by have := HR.out.len r; rw [List.length_take] at this; omega) hsr (HR.out.bd r))
   have hbne : some wr.heap.size ≠ (Value.slice s0 s1 s2).ownBlock := fun e => by
    have := ((HG.out.rows r).lt _ (by rw [hG0]; exact e.symm)).2
    omega
   have hmne : some w.heap.size ≠ (Value.slice s0 s1 s2).ownBlock := fun e => by
    have := ((HG.out.rows r).lt _ (by rw [hG0]; exact e.symm)).1
    omega
   have HMAP := hid g1.own
   have HBW := hid bW.drew
   have HG0 := hid hG0
   have HSR := hid hsr
   have HWF := hid hwf
   have HNE := hid (And.intro hbne hmne)
   have HX1 := hid X1
   have HDK := hid hdk
   have HZW := hid zW
   have i1 : (0 : Int) ≤ (k : Int) := Int.natCast_nonneg _
   have i2 : (k : Int) < (ts.length : Int) := by omega
   clear hseg hc hd hdk hsr bW g1 X1 hG0 hbne hmne
   go_wp2_with fail
   try rw [hW1]
   clear q0 q1 hW1
   refine wp_region_held_drew (S := fun w' => w'.cell? ⟨wr.heap.size, 0, none⟩ = some (.int .i64 r) ∧ w'.cell? ⟨wr.heap.size, 1, none⟩ = some (.int .i64 q)) (by kernel_rfl) ⟨r0, r1⟩ (fun hHeld => ?_)
   refine tk 0 15 ?_ (by kernel_rfl) (fun _ _ _ h => h) ?_ hHeld (tk 1 16 ?_ (by kernel_rfl) (fun _ _ _ h => h) ?_ hHeld (tk 2 17 ?_ (by kernel_rfl) (fun _ _ _ h => h) ?_ hHeld (tk 3 18 ?_ (by kernel_rfl) (fun _ _ _ h => h) ?_ hHeld (tk 4 19 ?_ (by kernel_rfl) (fun _ _ _ h => h) ?_ hHeld ?_))))
   iterate 5 (rotate_left; focus (intro o ho; simp only [gZa, gZb, gZc, gZd] at ho; subst ho; refine Or.inl ⟨by rfl, ?_⟩; intro w hSw; (try dsimp only at hSw); (try simp only [Act.put, sZa, sZb, sZc]); go_simp; try with_reducible rfl))
   try simp only [Act.put, sZa, sZb, sZc]
   refine tk 5 20 ?_ (by kernel_rfl) (fun _ _ _ h => h) ?_ hHeld (tk 7 22 ?_ (by kernel_rfl) (fun _ _ _ h => h) ?_ hHeld (tk 8 23 ?_ (by kernel_rfl) (fun _ _ _ h => h) ?_ hHeld (tk 9 24 ?_ (by kernel_rfl) (fun _ _ _ h => h) ?_ hHeld (tk 10 25 ?_ (by kernel_rfl) (fun _ _ _ h => h) ?_ hHeld ?_))))
   iterate 5 (rotate_left; focus (intro o ho; simp only [gZa, gZb, gZc, gZd] at ho; subst ho; refine Or.inl ⟨by rfl, ?_⟩; intro w hSw; (try dsimp only at hSw); (try simp only [Act.put, sZa, sZb, sZc]); go_simp; try with_reducible rfl))
   try simp only [Act.put, sZa, sZb, sZc]
   refine tk 11 26 ?_ (by kernel_rfl) (fun _ _ _ h => h) ?_ hHeld ?_
   rotate_left
   ·(intro o ho; simp only [gZa, gZb, gZc, gZd] at ho; subst ho; refine Or.inl ⟨by rfl, ?_⟩; intro w hSw; (try dsimp only at hSw); go_simp; try with_reducible rfl)
   try simp only [Act.put, sZa, sZb, sZc]
   refine call1 (i := 6) (d := some 21) (by kernel_rfl) (by kernel_rfl) ?_
   intro o ho hod K hK; simp only [gZa, gZb, gZc, gZd] at ho; subst ho
   go_simp
   refine hK.out _ _ ⟨r0, r1⟩ (fun hHeld => ?_)
   clear hK K
   try simp only [Act.put, sZa, sZb, sZc]
   refine call1 (i := 12) (d := some 27) (by kernel_rfl) (by kernel_rfl) ?_
   intro o ho hod K hK; simp only [gZa, gZb, gZc, gZd] at ho; subst ho
   go_simp
   refine HAP.out.mono ?_
   rintro e w5 ⟨v', rfl, hown5, hgr5⟩
   have BD : w5.cell? ⟨wr.heap.size, 0, none⟩ = some (.int .i64 r) ∧ w5.cell? ⟨wr.heap.size, 1, none⟩ = some (.int .i64 q) := ⟨hgr5.g.cell r0 HNE.out.1, hgr5.g.cell r1 HNE.out.1⟩
   refine hK.out _ _ ⟨BD.1, BD.2⟩ (fun hHeld => ?_)
   clear hK K
   try simp only [Act.put, sZa, sZb, sZc]
   refine call1 (i := 13) (d := none) (by kernel_rfl) (by kernel_rfl) ?_
   intro o ho hod K hK; simp only [gZa, gZb, gZc, gZd] at ho; subst ho
   rw [if_pos (by rfl)]
   refine wp_put_own _ _ _ _ _ (by rfl) 3 132 (int_keyed Tryz.underlying3) Tryz.underlying66 rawR w.heap.size k D (by rfl) (HMAP.out.kept hgr5.g HNE.out.2) (by unfold maxLen; omega) (.int .i64 r) v' (kI r) (by rfl) (by rfl) (keyOf_int_mk Tryz.underlying3 HWF.out) (.held v') [] (rawR_own hown5) ?_
   intro w6 hown6 hgr6
   have BE : w6.cell? ⟨wr.heap.size, 0, none⟩ = some (.int .i64 r) ∧ w6.cell? ⟨wr.heap.size, 1, none⟩ = some (.int .i64 q) := ⟨hgr6.cell BD.1 (by have := HZ.out; simp; omega), hgr6.cell BD.2 (by have := HZ.out; simp; omega)⟩
   refine hK.out _ _ ⟨BE.1, BE.2⟩ (fun hHeld => ?_)
   clear hK K
   try simp only [Act.put, sZa, sZb, sZc]
   refine wpAnyH_done (by kernel_rfl) ?_ _
   have HG6 : Hid (GrpAt w6 w.heap.size (k + 1) (D.put (kI r) (.held v')) (upd G r v') (upd L r (appS (L r) (q, q)))) := hid (HG.out.stepS HBW.out hown5 (appS_len _ _).2 (by rw [HG0.out]; exact hgr5) hown6 hgr6)
   have HR6 : Hid (RdI (upd L r (appS (L r) (q, q))) (ts.take (k + 1))) := hid (by
    rw [HTK.out]
    exact HR.out.step (d := (r, q)) HDK.out.2 HLE.out)
   have HO6 : Hid (w6.ownsRow w2.heap.size 55 2 (.slice (some ⟨g, 0, none⟩) ts.length tc) ts.length (Ds.kRow ts)) := hid (by
    have o1 := row_below HO.out HBW.out
    have o2 := o1.kept hgr5.g (rows_ne o1 HSR.out (by decide))
    exact o2.kept hgr6 (row_map o2 (HMAP.out.kept hgr5.g HNE.out.2)))
   have HB6 := hid (((HB.out.trans (HBW.out.mono HB.out.size)).grown hgr5.g (by have := HZ.out; show w.heap.size ≤ W1.heap.size; have := HZW.out; omega) (fun k hk => by have := (World.ownsRow.lt HSR.out k hk).1; omega)).grown hgr6 (by have h1 := hgr5.g.size; have h2 := HZ.out; have h3 := HZW.out; have h4 : W1.drew.heap.size = W1.heap.size := rfl; omega) (fun k hk => by injection hk with hk; omega))
   have HZ6 : Hid (w.heap.size < w6.heap.size) := hid (by have h1 := hgr5.g.size; have h2 := HZ.out; have h3 := HZW.out; have h4 : W1.drew.heap.size = W1.heap.size := rfl; have h5 := hgr6.size; omega)
   clear hHeld BD BE hown5 hgr5 hown6 hgr6 hlk
   go_wp2_with fail
   go_roundw
   case rel => exact ⟨k + 1, _, _, _, hlt, by go_num, HG6, HR6, HB6, HO6, HZ6⟩
   case measure => simp [intOf]; omega
  ·obtain rfl : k = ts.length := by omega
   have HE : Hid ((∀ r x, In (L r) x ↔ (r, x) ∈ ss) ∧ ∀ r, (L r).length ≤ 2000) := hid ⟨fun r x => by
    have := HR.out.mem r x
    rw [List.take_length, HP.out.mem_iff] at this
    exact this, fun r => by have := HR.out.len r; rw [List.take_length] at this; omega⟩
   go_wp2_with fail
   go_ret
   exact ⟨⟨w.heap.size, ts.length, D, G, L, rfl, hts, HG.out, HR.out.srt, HE.out.1, HE.out.2, Nat.le_refl _⟩, HB.out⟩
def DR (w : World) (B : Nat) (v : Value) (ts : List Dt) : Prop := w.ownsRow B 55 2 v ts.length (Ds.kRow ts)
theorem kRow_app (a b : List Dt) : Ds.kRow (a ++ b) = Ds.kRow a ++ Ds.kRow b := by simp [Ds.kRow]
theorem DR.below {w w1 : World} {B : Nat} {v : Value} {ts : List Dt} (h : DR w B v ts) (hb : RowKit.Below w.heap.size w w1) : DR w1 B v ts := row_below h hb
theorem DR.nil (w : World) (B : Nat) : DR w B (.slice none 0 0) [] := World.ownsRow_nil _ _ _ _
theorem DR.weak {w : World} {B C : Nat} {v : Value} {ts : List Dt} (h : DR w B v ts) (hc : C ≤ B) : DR w C v ts := by
 refine ⟨h.1, ?_⟩
 rcases h.2 with e | ⟨g, cap, cur, e, hb, r⟩
 ·exact .inl e
 ·exact .inr ⟨g, cap, cur, e, Nat.le_trans hc hb, r⟩
theorem dotsApp (B B' : Nat) (v x : Value) (ts ss : List Dt) (w : World) (ty : TypeId) (h : DR w B v ts) (h' : DR w B' x ss) (hB : B ≤ w.heap.size) (hl : ts.length + ss.length ≤ 1000000000) :
  ∃ v' w', (Builtin.append_ #[102, 102] ty #[v, x]).run Tryz.prog w = .ok v' w' ∧ DR w' B v' (ts ++ ss) ∧ Gr w w' v v' := by
 obtain ⟨i0, hi, hz0, hz1, hz2⟩ := info_parts Ds.infoDt
 rcases h'.2 with ⟨rfl, h0⟩ | ⟨g, cap, cur, rfl, hb, hg, h1, h2, h3, h4⟩
 ·have : ss = [] := List.eq_nil_of_length_eq_zero h0
  subst this
  exact ⟨v, w, run_append_owned_none w B _ ty 55 i0 2 Tryz.underlying102 hi v ts.length _ h, by simpa using h, Gr.refl _ _⟩
 ·obtain ⟨v', w', hr, k2, k3, k4, k5⟩ := run_append_own_at (P := Tryz.prog) w B 102 ty 55 i0 (.agg #[.int .i64 0, .int .i64 0]) 2 16 Tryz.underlying102 hi hz0 hz1 hz2 rfl (by decide) v ts.length _ h ⟨g, 0, none⟩ ss.length cap (Ds.kRow ss) (by rw [Ds.kRow_len])
   (fun j u hj => by
    have hlt : j < ss.length * 2 := by
     have := (List.getElem?_eq_some_iff.1 hj).1
     rw [Ds.kRow_len] at this; exact this
    have := World.ownsRow.cellAt h' j hlt
    rw [hj] at this
    by_cases e : j = 0
    ·subst e; simpa [Addr.add] using this
    ·simpa [Addr.add, e] using this)
   (fun u hu => by
    unfold Ds.kRow at hu
    obtain ⟨d, _, hd⟩ := List.mem_flatMap.1 hu
    simp [Ds.kCells] at hd
    rcases hd with rfl | rfl <;> rfl) (by unfold maxLen; omega) (by omega) hB
  refine ⟨v', w', hr, ?_, Gr.app k3 k5⟩
  unfold DR
  rw [List.length_append, kRow_app]; exact k2
theorem ob_ne {o : Option Nat} {k : Nat} (h : o = none ∨ o ≠ some k) : o ≠ some k := by
 rcases h with h | h
 ·rw [h]; simp
 ·exact h
theorem rng_row {α β : Type} {w : World} {t : TypeId} {kv : α → Value} {vo : Option β → Value} {b r c cnt : Nat} {f : α → Option β} {ds : List α} {B s n : Nat} {e : TypeId} {v : Value} {xs : List Value} (h : w.ownsRow B e s v n xs) (hr : Rng w t kv vo (some b) r c f ds cnt) : (v.ownBlock = none ∨ v.ownBlock ≠ some r) ∧ (v.ownBlock = none ∨ v.ownBlock ≠ some b) := by
 obtain ⟨D, left, ⟨es, clock, since, seen, c0, hb, F, hs, hD, hr', rest⟩, _⟩ := hr
 rcases h.2 with ⟨rfl, _⟩ | ⟨g, cap, cur, rfl, _, hg, _⟩
 ·exact ⟨.inl rfl, .inl rfl⟩
 ·refine ⟨.inr fun e => ?_, .inr fun e => ?_⟩
  ·have : g = r := by simpa [Value.ownBlock] using e
   rw [this, hr'] at hg; cases hg
  ·have : g = b := by simpa [Value.ownBlock] using e
   rw [this, hb] at hg; cases hg
def DtW (J : List Lf) (z : List Ky) (d : Dt) : Prop := ∃ x ∈ J, z <+: Way x ∧ (x.r, x.q) = d
def DtM (J : List Lf) (z : List Ky) (d : Dt) : Prop := ∃ x ∈ J, Way x = z ∧ (x.r, x.q) = d
theorem dtW_split {J : List Lf} {z : List Ky} {ks : List Ky} {d : Dt} (hk : ∀ x ∈ J, ∀ y, z ++ [y] <+: Way x → y ∈ ks) : DtW J z d ↔ DtM J z d ∨ ∃ y ∈ ks, DtW J (z ++ [y]) d := by
 constructor
 ·rintro ⟨x, hx, ⟨s, hs⟩, e⟩
  cases s with
  | nil => exact .inl ⟨x, hx, by rw [← hs]; simp, e⟩
  | cons y s =>
   have hy : z ++ [y] <+: Way x := by rw [← hs, show z ++ y :: s = (z ++ [y]) ++ s by simp]; exact List.prefix_append _ _
   exact .inr ⟨y, hk x hx y hy, x, hx, hy, e⟩
 ·rintro (⟨x, hx, h, e⟩ | ⟨y, _, x, hx, h, e⟩)
  ·exact ⟨x, hx, by rw [h]; exact List.prefix_refl _, e⟩
  ·exact ⟨x, hx, List.IsPrefix.trans (List.prefix_append _ _) h, e⟩
theorem marks_dt {J : List Lf} {z : List Ky} {d : Dt} : Mk J J.length z d ≠ none ↔ DtM J z d := by
 rw [Mk_ne]
 constructor
 ·rintro ⟨j, hj, h1, h2⟩
  exact ⟨gL J j, gL_mem.2 ⟨j, hj, rfl⟩, h1, h2⟩
 ·rintro ⟨x, hx, h1, h2⟩
  obtain ⟨j, hj, e⟩ := gL_mem.1 hx
  exact ⟨j, hj, by rw [e]; exact h1, by rw [e]; exact h2⟩
theorem keys_len {J : List Lf} (hd : Dis J J.length) {z : List Ky} {ss : List Dt} (h : KeysF (Mk J J.length z) ss) : ss.length = mW J z := by
 have h2 := marks_keys hd z
 have := ((List.perm_ext_iff_of_nodup h.1 h2.1).2 (fun x => (h.2 x).trans (h2.2 x).symm)).length_eq
 rw [this, List.length_map]; rfl
theorem dotsStep {v0 : World} {B c : Nat} {J : List Lf} {N : List Ky → Option (Nat × Nat)} (H : TJ v0 B J N c) (hc : c ≤ 100000) (hJ : J.length ≤ 1000) (z : List Ky) (x : Nat × Nat) (hx : N z = some x)
  (hIH : ∀ y x1, N (z ++ [y]) = some x1 → ∀ w, RowKit.Below v0.heap.size v0 w → Calls Tryz.prog 76 #[.agg #[.map (some x1.1), .map (some x1.2)]] w fun e w' => (∃ v ts, e = .returned v ∧ DR w' w.heap.size v ts ∧ (∀ d, d ∈ ts ↔ DtW J (z ++ [y]) d) ∧ ts.length = cW J (z ++ [y])) ∧ RowKit.Below w.heap.size w w')
  (w : World) (hw : RowKit.Below v0.heap.size v0 w) :
  Calls Tryz.prog 76 #[.agg #[.map (some x.1), .map (some x.2)]] w fun e w' => (∃ v ts, e = .returned v ∧ DR w' w.heap.size v ts ∧ (∀ d, d ∈ ts ↔ DtW J z d) ∧ ts.length = cW J z) ∧ RowKit.Below w.heap.size w w' := by
 have HT := hid (H.below hw)
 have HV := hid hw
 have HX := hid hx
 have HI := hid hIH
 have HDI := hid H.dis
 obtain ⟨W, hW⟩ : ∃ W, w.alloc (.cells #[.map (some x.1), .map (some x.2)] 64) = W := ⟨_, rfl⟩
 have b0 : RowKit.Below w.heap.size w W := by rw [← hW]; exact (RowKit.Below.refl _ _).alloc (Nat.le_refl _) _
 have X0 : Bx2 W w.heap.size (.map (some x.1)) (.map (some x.2)) := by rw [← hW]; exact Bx2.made _ _ _ _
 have HX0 := hid X0
 have HB0 := hid b0
 have x1 := X0.c1
 have HJL := hid (And.intro hc hJ)
 have HTH := hid H.there
 have HG : Hid (∀ w1, RowKit.Below w.heap.size w w1 → ∀ Bm, Bm < w1.heap.size → w1.cell? ⟨Bm, 0, none⟩ = some (.map (some x.2)) → ∃ n, n ≤ 1048576 ∧ SeqGives Fence.wide 4 Tryz.prog 108 #[.pointer (some ⟨Bm, 0, none⟩)] dtV (KeysF (Mk J J.length z)) n w1) := hid (fun w1 b1 Bm hBm hm => by
  obtain ⟨D, hF⟩ := (HT.out.tre.below b1).marks z x HX.out
  exact ⟨Maps.size D, Nat.le_trans hF.own.size_le (by have := HJL.out.1; omega), Ds.keysGivesK Bm x.2 c _ D w1 hBm hm hF⟩)
 clear H hc hx hIH hw b0 X0 hJ
 go_enter Tryz.func76, Tryz.ntmps76
 go_wp2_with fail
 try rw [hW]
 clear hW
 refine (Ds.keysFnK (some x.2) W).mono ?_
 rintro e w1 ⟨rfl, hw1⟩
 have b1 : RowKit.Below W.heap.size W w1 := by rw [hw1]; exact (RowKit.Below.refl _ _).alloc (Nat.le_refl _) _
 have c1 : w1.cell? ⟨W.heap.size, 0, none⟩ = some (.map (some x.2)) := by rw [hw1]; simp
 have z1 : W.heap.size < w1.heap.size := by rw [hw1]; simp
 have HB1 := hid (HB0.out.trans (b1.mono HB0.out.size))
 have HW1 := hid b1
 obtain ⟨n, hn, hseq⟩ := HG.out w1 HB1.out W.heap.size z1 c1
 have HS := hid (Ds.collectK _ _ (enters_of Tryz.func108 (by kernel_rfl) rfl) _ n (by unfold maxLen; omega) (by omega) w1 hseq)
 clear hseq hw1 b1 c1 z1 x1 HG
 go_wp2_with fail
 refine HS.out.mono ?_
 rintro e w2 ⟨v0', ss0, rfl, hK, hrow, _, b2⟩
 obtain ⟨fa, fn, fc, hform⟩ := row_form hrow
 subst hform
 have HB2 := hid (HB1.out.trans (b2.mono HB1.out.size))
 have HW2 := hid (keepS HW1.out b2)
 have HR2 : Hid (DR w2 W.heap.size (.slice fa fn fc) ss0) := hid (DR.weak hrow HW1.out.size)
 have HK := hid hK
 have HKS : Hid (MapF w2 140 keyV nodV x.1 c (fun y => N (z ++ [y]))) := hid ((HT.out.tre.below HB2.out).kids z x HX.out)
 have x0 := (HX0.out.below HW2.out HX0.out.lt).c0
 have HZ2 : Hid (W.heap.size ≤ w2.heap.size) := hid HW2.out.size
 clear hK hrow b2 HS
 go_wp2_with (at_range; refine wpList_range_O _ rfl _ 61 rfl 140 64 keyKeyed Tryz.underlying61 keyV nodV (some x.1) c (fun y => N (z ++ [y])) rfl HKS.out ?_; intro w0 cnt0 hrg0 hg0 hs0)
 have b02 : RowKit.Below w2.heap.size w2 w0 := ⟨hg0.os, hg0.tape, hg0.output, hg0.size, fun k hk => hg0.block k hk (by simp)⟩
 have HG1 : Hid (RowKit.Below W.heap.size W w0) := hid (keepS HW2.out b02)
 have HR0 : Hid (DR w0 W.heap.size (.slice fa fn fc) ss0) := hid (HR2.out.below b02)
 clear hg0 hs0 x0 b02
 try go_frame
 go_loopw [3] (fun t wr => ∃ (ds : List Ky) (cnt : Nat) (ts : List Dt), Rng wr 140 keyV nodV (some x.1) w2.heap.size c (fun y => N (z ++ [y])) ds cnt ∧ Hid (DR wr W.heap.size t ts) ∧ Hid (∀ d, d ∈ ts ↔ DtM J z d ∨ ∃ y ∈ ds, DtW J (z ++ [y]) d) ∧ Hid (ts.length = mW J z + (ds.map fun y => cW J (z ++ [y])).sum) ∧ Hid (RowKit.Below W.heap.size W wr) ∧ Hid (w2.heap.size ≤ wr.heap.size)) (fun t wr => wr.rangeLeft x.1 w2.heap.size)
 case atStart => exact ⟨[], _, ss0, hrg0, HR0, hid (fun d => by rw [HK.out.2 d, marks_dt]; simp), hid (by rw [keys_len HDI.out HK.out]; simp), HG1, hid (by have := hrg0.lt; omega)⟩
 case round =>
  clear hrg0 HG1 HR0
  obtain ⟨ds, cnt, ts, hrg, HR, HM, HL, HGR, HZR⟩ := hrel
  have HRG0 := hid hrg
  obtain ⟨fa, fn, fc, hform⟩ := row_form HR.out
  subst hform
  go_wp2_with (at_next; refine wpList_next_O _ rfl _ rfl 140 keyKeyed keyV (fun _ _ => keyV_inj) (fun key kl hk => keyOf_key hk) nodV (some x.1) w2.heap.size c (fun y => N (z ++ [y])) ds cnt rfl hrg ?_ ?_)
  ·intro hk
   have hall : ∀ u ∈ J, ∀ y, z ++ [y] <+: Way u → y ∈ ds := fun u hu y hp => (hk.2 y).2 (fun hn => by
    have := (HTH.out z y).2 ⟨u, hu, hp⟩
    rw [show N (z ++ [y]) = none from hn] at this; cases this)
   have HE : Hid ((∀ d, d ∈ ts ↔ DtW J z d) ∧ ts.length = cW J z) := hid ⟨fun d => by rw [HM.out d, dtW_split hall], by rw [HL.out, cW_sum z ds hk.1 J hall]⟩
   have HRW : Hid (DR wr w.heap.size (.slice fa fn fc) ts) := hid (HR.out.weak HB0.out.size)
   clear hk hrg hall
   go_wp2_with fail
   go_ret
   exact ⟨⟨_, ts, rfl, HRW.out, HE.out.1, HE.out.2⟩, keepS HB0.out HGR.out⟩
  ·intro xs xk yv1 yv2 w5 cnt2 hfx hnx kl hkl hrg2 hlt2 hg2 hs2 hen
   have HKY := hid (fun w1 (b1 : RowKit.Below v0.heap.size v0 w1) => HI.out (xs, xk) (yv1, yv2) hfx w1 b1)
   have HML : Hid (∀ w9, Rng w9 140 keyV nodV (some x.1) w2.heap.size c (fun y => N (z ++ [y])) (ds ++ [(xs, xk)]) cnt2 → w9.rangeLeft x.1 w2.heap.size < wr.rangeLeft x.1 w2.heap.size) := hid (fun w9 h9 => by
    rw [h9.left_eq, HRG0.out.left_eq]; exact hlt2)
   have HB5 : Hid (RowKit.Below W.heap.size W w5) := hid (HGR.out.grown hg2 HGR.out.size (fun k e => by cases e; exact HZ2.out))
   have HR5 := hid hrg2
   have HD5 : Hid (DR w5 W.heap.size (.slice fa fn fc) ts) := hid (World.ownsRow.kept HR.out hg2 (rng_row HR.out HRG0.out).1)
   obtain ⟨w6, hw6⟩ : ∃ w6, w5.alloc (.cells #[.map (some yv1), .map (some yv2)] 64) = w6 := ⟨_, rfl⟩
   have b6 : RowKit.Below w5.heap.size w5 w6 := by rw [← hw6]; exact (RowKit.Below.refl _ _).alloc (Nat.le_refl _) _
   have K6 : Bx2 w6 w5.heap.size (.map (some yv1)) (.map (some yv2)) := by rw [← hw6]; exact Bx2.made _ _ _ _
   have HB6 := hid (HB5.out.trans (b6.mono HB5.out.size))
   have HV6 : Hid (RowKit.Below v0.heap.size v0 w6) := hid (HV.out.trans ((keepS HB0.out HB6.out).mono HV.out.size))
   have HR6 := hid (HR5.out.same (fun b e => b6.block b (HR5.out.mlt b e)) (b6.block _ HR5.out.lt))
   have HD6 := hid (HD5.out.below b6)
   have HZ6 : Hid (w2.heap.size ≤ w6.heap.size) := hid (by have := HZR.out; have := hg2.size; have := b6.size; omega)
   have c0 := K6.c0
   have c1 := K6.c1
   clear hfx hnx hkl hrg hrg2 hlt2 hg2 hs2 b6 K6
   dsimp only [keyV, nodV] at hen ⊢
   go_wp2_with fail
   try rw [hw6]
   refine (HKY.out _ HV6.out).mono ?_
   rintro e w7 ⟨⟨v7, t7, rfl, hd7, hm7, hl7⟩, b7⟩
   have HB7 := hid (HB6.out.trans (b7.mono HB6.out.size))
   have HR7 := hid (HR6.out.same (fun b e => b7.block b (HR6.out.mlt b e)) (b7.block _ HR6.out.lt))
   have HD7 := hid (HD6.out.below b7)
   have hlen7 : ts.length + t7.length ≤ 1000000000 := by
    have h1 := sum_cW J z ds
    have h2 := HRG0.out.len
    have h3 := HJL.out
    have h4 : ds.length * J.length ≤ 100000 * 1000 := Nat.mul_le_mul (by omega) (by omega)
    have h5 := mW_le J z
    have h6 := cW_le J (z ++ [(xs, xk)])
    rw [HL.out, hl7]; omega
   obtain ⟨v8, w8, hr8, hd8, hg8⟩ := dotsApp W.heap.size w6.heap.size (.slice fa fn fc) v7 ts t7 w7 102 HD7.out hd7 HB7.out.size hlen7
   have HR8 : Hid (Rng w8 140 keyV nodV (some x.1) w2.heap.size c (fun y => N (z ++ [y])) (ds ++ [(xs, xk)]) cnt2) := hid (HR7.out.kept hg8.g (fun b e => by cases e; exact ob_ne (rng_row HD7.out HR7.out).2) (ob_ne (rng_row HD7.out HR7.out).1))
   have HB8 : Hid (RowKit.Below W.heap.size W w8) := hid (HB7.out.grown hg8.g HB7.out.size (fun k hk => (World.ownsRow.lt HD7.out k hk).1))
   have HM8 : Hid (∀ d, d ∈ ts ++ t7 ↔ DtM J z d ∨ ∃ y ∈ ds ++ [(xs, xk)], DtW J (z ++ [y]) d) := hid (fun d => by
    rw [List.mem_append, HM.out d, hm7 d]
    constructor
    ·rintro ((h | ⟨y, hy, h⟩) | h)
     ·exact .inl h
     ·exact .inr ⟨y, List.mem_append_left _ hy, h⟩
     ·exact .inr ⟨_, by simp, h⟩
    ·rintro (h | ⟨y, hy, h⟩)
     ·exact .inl (.inl h)
     ·rcases List.mem_append.1 hy with hy | hy
      ·exact .inl (.inr ⟨y, hy, h⟩)
      ·rw [List.mem_singleton.1 hy] at h; exact .inr h)
   have HL8 : Hid ((ts ++ t7).length = mW J z + ((ds ++ [(xs, xk)]).map fun y => cW J (z ++ [y])).sum) := hid (by
    rw [List.length_append, HL.out, hl7]; simp; omega)
   have HD8 := hid hd8
   have HZ8 : Hid (w2.heap.size ≤ w8.heap.size) := hid (by have := HZ6.out; have := b7.size; have := hg8.g.size; omega)
   obtain ⟨ga, gn, gc, hform⟩ := row_form hd8
   subst hform
   clear b7 c0 c1 hen hw6 hd7 hm7 hl7 hd8 hg8 hlen7
   go_wp2_with (at_builtin; refine wpList_app2 rfl _ _ _ _ rfl hr8 rfl rfl rfl ?_)
   go_roundw
   case rel => exact ⟨_, _, ts ++ t7, HR8.out, HD8, HM8, HL8, HB8, HZ8⟩
   case measure => exact HML.out w8 HR8.out
theorem dotsC {v0 : World} {B c : Nat} {J : List Lf} {N : List Ky → Option (Nat × Nat)} (H : TJ v0 B J N c) (hc : c ≤ 100000) (hJ : J.length ≤ 1000) (h8 : ∀ x ∈ J, (Way x).length ≤ 8) :
  ∀ d z x, z.length + d = 8 → N z = some x → ∀ w, RowKit.Below v0.heap.size v0 w → Calls Tryz.prog 76 #[.agg #[.map (some x.1), .map (some x.2)]] w fun e w' => (∃ v ts, e = .returned v ∧ DR w' w.heap.size v ts ∧ (∀ d, d ∈ ts ↔ DtW J z d) ∧ ts.length = cW J z) ∧ RowKit.Below w.heap.size w w'
 | 0, z, x, hz, hx, w, hw => dotsStep H hc hJ z x hx (fun y x1 h1 => absurd (H.deep h8 (z ++ [y]) (by rw [h1]; simp)) (by simp; omega)) w hw
 | d + 1, z, x, hz, hx, w, hw => dotsStep H hc hJ z x hx (fun y x1 h1 => dotsC H hc hJ h8 d (z ++ [y]) x1 (by simp; omega) h1) w hw
theorem dotsNone (w : World) : Calls Tryz.prog 76 #[.agg #[.map none, .map none]] w fun e w' => e = .returned (.slice none 0 0) ∧ RowKit.Below w.heap.size w w' := by
 obtain ⟨W, hW⟩ : ∃ W, w.alloc (.cells #[.map none, .map none] 64) = W := ⟨_, rfl⟩
 have b0 : RowKit.Below w.heap.size w W := by rw [← hW]; exact (RowKit.Below.refl _ _).alloc (Nat.le_refl _) _
 have X0 : Bx2 W w.heap.size (.map none) (.map none) := by rw [← hW]; exact Bx2.made _ _ _ _
 have HX0 := hid X0
 have HB0 := hid b0
 have x1 := X0.c1
 clear b0 X0
 go_enter Tryz.func76, Tryz.ntmps76
 go_wp2_with fail
 try rw [hW]
 clear hW
 refine (Ds.keysFnK none W).mono ?_
 rintro e w1 ⟨rfl, hw1⟩
 have b1 : RowKit.Below W.heap.size W w1 := by rw [hw1]; exact (RowKit.Below.refl _ _).alloc (Nat.le_refl _) _
 have c1 : w1.cell? ⟨W.heap.size, 0, none⟩ = some (.map none) := by rw [hw1]; simp
 have z1 : W.heap.size < w1.heap.size := by rw [hw1]; simp
 have HW1 := hid b1
 have hseq : SeqGives Fence.wide 4 Tryz.prog 108 #[.pointer (some ⟨W.heap.size, 0, none⟩)] dtV (KeysF (fun _ : Dt => (none : Option ByteArray))) 0 w1 := fun l J W' hW' hJ hY h0 => Ds.keysNilK 4 l W.heap.size J W' hJ ((hW'.cell (p := ⟨W.heap.size, 0, none⟩) z1).trans c1) h0
 have HS := hid (Ds.collectK _ _ (enters_of Tryz.func108 (by kernel_rfl) rfl) _ 0 (by unfold maxLen; omega) (by omega) w1 hseq)
 clear hseq hw1 b1 c1 z1 x1
 go_wp2_with fail
 refine HS.out.mono ?_
 rintro e w2 ⟨v0', ss0, rfl, hK, hrow, hnil, b2⟩
 have e0 : ss0 = [] := List.eq_nil_iff_forall_not_mem.2 (fun d hd => (hK.2 d).1 hd rfl)
 have e1 : v0' = .slice none 0 0 := hnil.2 e0
 subst e1
 have HW2 := hid (keepS HW1.out b2)
 have x0 := (HX0.out.below HW2.out HX0.out.lt).c0
 have HKS : Hid (MO w2 140 keyV nodV none 0 (fun _ : Ky => (none : Option (Nat × Nat)))) := hid (fun x => rfl)
 clear hK hrow hnil e0 b2 HS
 go_wp2_with (at_range; refine wpList_range_O _ rfl _ 61 rfl 140 64 keyKeyed Tryz.underlying61 keyV nodV none 0 (fun _ : Ky => (none : Option (Nat × Nat))) rfl HKS.out ?_; intro w0 cnt0 hrg0 hg0 hs0)
 have HG1 : Hid (RowKit.Below W.heap.size W w0) := hid (keepS HW2.out ⟨hg0.os, hg0.tape, hg0.output, hg0.size, fun k hk => hg0.block k hk (by simp)⟩)
 clear hg0 hs0 x0
 try go_frame
 go_loopw [3] (fun t wr => t = .slice none 0 0 ∧ (∃ cnt, Rng wr 140 keyV nodV none w2.heap.size 0 (fun _ : Ky => (none : Option (Nat × Nat))) [] cnt) ∧ Hid (RowKit.Below W.heap.size W wr)) (fun t wr => 0)
 case atStart => exact ⟨rfl, ⟨_, hrg0⟩, HG1⟩
 case round =>
  clear hrg0 HG1
  obtain ⟨rfl, ⟨cnt, hrg⟩, HGR⟩ := hrel
  go_wp2_with (at_next; refine wpList_next_O _ rfl _ rfl 140 keyKeyed keyV (fun _ _ => keyV_inj) (fun key kl hk => keyOf_key hk) nodV none w2.heap.size 0 (fun _ : Ky => (none : Option (Nat × Nat))) [] cnt rfl hrg ?_ ?_)
  intro hk
  clear hk hrg
  go_wp2_with fail
  go_ret
  exact ⟨rfl, keepS HB0.out HGR.out⟩
def gI (ks : List Int) (i : Nat) : Int := ks.getD i 0
def ISeg (w : World) (g : Nat) (ks : List Int) : Prop := g < w.heap.size ∧ ∀ i, i < ks.length → w.cell? ⟨g, i, none⟩ = some (.int .i64 (gI ks i))
theorem ISeg.below {w w1 : World} {g : Nat} {ks : List Int} (h : ISeg w g ks) (hb : RowKit.Below w.heap.size w w1) : ISeg w1 g ks :=
 ⟨Nat.lt_of_lt_of_le h.1 hb.size, fun i hi => (hb.cell (p := ⟨g, _, none⟩) h.1).trans (h.2 i hi)⟩
theorem gI_mem {ks : List Int} {i : Nat} (h : i < ks.length) : gI ks i ∈ ks := by simp [gI, List.getD, h]
theorem gI_take {ks : List Int} {k : Nat} (h : k < ks.length) : ks.take (k + 1) = ks.take k ++ [gI ks k] := by
 rw [List.take_add_one]; simp [gI, List.getD, h]
theorem OpA.tj {w : World} {x0 : Nat × Nat} {bm : Nat} {S : Sx} (h : OpA w x0 bm S) (hd : Dis S.l S.l.length) : ∃ N B, TJ w B S.l N (9 * S.l.length) ∧ N [] = some x0 := by
 obtain ⟨n, D, G, N, B, h0, h1, h2, h3, h4⟩ := h
 refine ⟨N, B, ⟨h2, fun z y => ?_, hd⟩, h3⟩
 rw [h4]
 constructor
 ·rintro (e | ⟨j, hj, hp⟩)
  ·simp at e
  ·exact ⟨gL S.l j, gL_mem.2 ⟨j, hj, rfl⟩, hp⟩
 ·rintro ⟨x, hx, hp⟩
  obtain ⟨j, hj, e⟩ := gL_mem.1 hx
  exact .inr ⟨j, hj, by rw [e]; exact hp⟩
theorem dotsAny {v0 : World} {B c : Nat} {J : List Lf} {N : List Ky → Option (Nat × Nat)} {x0 : Nat × Nat} (H : TJ v0 B J N c) (hr : N [] = some x0) (hc : c ≤ 100000) (hJ : J.length ≤ 1000) (h8 : ∀ x ∈ J, (Way x).length ≤ 8) (z : List Ky) (w : World) (hw : RowKit.Below v0.heap.size v0 w) :
  Calls Tryz.prog 76 #[.agg #[.map (mF (N z)), .map (mS (N z))]] w fun e w' => (∃ v ts, e = .returned v ∧ DR w' w.heap.size v ts ∧ (∀ d, d ∈ ts ↔ DtW J z d) ∧ ts.length = cW J z) ∧ RowKit.Below w.heap.size w w' := by
 cases hz : N z with
 | some x =>
  have h := H.deep h8 z (by rw [hz]; simp)
  exact dotsC H hc hJ h8 (8 - z.length) z x (by omega) hz w hw
 | none =>
  refine (dotsNone w).mono ?_
  rintro e w' ⟨rfl, b⟩
  have hno : ∀ x ∈ J, ¬ z <+: Way x := fun x hx hp => by
   rcases nil_or_snoc z with e | ⟨z', y, e⟩
   ·rw [e, hr] at hz; cases hz
   ·have := (H.there z' y).2 ⟨x, hx, by rw [← e]; exact hp⟩
    rw [← e, hz] at this; cases this
  refine ⟨⟨_, [], rfl, DR.nil _ _, fun d => ⟨fun h => (by cases h), fun ⟨x, hx, hp, _⟩ => absurd hp (hno x hx)⟩, ?_⟩, b⟩
  unfold cW
  rw [List.filter_eq_nil_iff.2 (fun x hx => by rw [yes_f (hno x hx)]; simp)]
  rfl
theorem dotsAtC {v0 : World} {B c : Nat} {J : List Lf} {N : List Ky → Option (Nat × Nat)} {x0 : Nat × Nat} (H : TJ v0 B J N c) (hr : N [] = some x0) (hc : c ≤ 100000) (hJ : J.length ≤ 1000) (h8 : ∀ x ∈ J, (Way x).length ≤ 8)
  (p : List ByteArray) (a : Option Addr) (cp : Nat) (bm g kc : Nat) (ks : List Int) (hp : p.length ≤ 1048576) (hs : ∀ i, (gS p i).size ≤ 1048576) (hk : ∀ k ∈ ks, (Lit.int .i64 k).wf = true) (hkl : ks.length ≤ 3) (w : World) (hw : RowKit.Below v0.heap.size v0 w) (hseg : SSeg w a p) (hks : ISeg w g ks) :
  Calls Tryz.prog 56 #[.agg #[.map (some x0.1), .map (some x0.2), .map (some bm)], .slice a p.length cp, .slice (some ⟨g, 0, none⟩) ks.length kc] w fun e w' => (∃ v ts, e = .returned v ∧ DR w' w.heap.size v ts ∧ (∀ d, d ∈ ts ↔ ∃ k ∈ ks, DtW J (wayOf p k) d) ∧ ts.length = (ks.map fun k => cW J (wayOf p k)).sum) ∧ RowKit.Below w.heap.size w w' := by
 obtain ⟨W, hW⟩ : ∃ W, w.alloc (.cells #[.map (some x0.1), .map (some x0.2), .map (some bm)] 68) = W := ⟨_, rfl⟩
 have b0 : RowKit.Below w.heap.size w W := by rw [← hW]; exact (RowKit.Below.refl _ _).alloc (Nat.le_refl _) _
 have X0 : Bx3 W w.heap.size (.map (some x0.1)) (.map (some x0.2)) (.map (some bm)) := by rw [← hW]; exact Bx3.made _ _ _ _ _
 have HX0 := hid X0
 have HB0 := hid b0
 have HT := hid H
 have HV := hid hw
 have HRT := hid hr
 have HSG := hid hseg
 have HKS := hid hks
 have HKW := hid hk
 have Hs := hid hs
 have HH := hid (And.intro hc (And.intro hJ h8))
 clear b0 X0 H hw hr hseg hks hk hs hc hJ h8
 go_enter Tryz.func56, Tryz.ntmps56
 go_wp2_with fail
 try rw [hW]
 clear hW
 go_loopw [7, 12] (fun t i wr => ∃ (k : Nat) (ts : List Dt), k ≤ ks.length ∧ i = .int .i64 k ∧ Hid (DR wr W.heap.size t ts) ∧ Hid (∀ d, d ∈ ts ↔ ∃ k' ∈ ks.take k, DtW J (wayOf p k') d) ∧ Hid (ts.length = ((ks.take k).map fun k => cW J (wayOf p k)).sum) ∧ Hid (ts.length ≤ k * 1000) ∧ Hid (RowKit.Below W.heap.size W wr)) (fun t i _ => ks.length - (intOf i).toNat)
 case atStart => exact ⟨0, [], Nat.zero_le _, rfl, hid (DR.nil _ _), hid (fun d => by simp), hid (by simp), hid (by simp), hid (RowKit.Below.refl _ _)⟩
 case round =>
  obtain ⟨k, ts, hk, rfl, HR, HM, HL, HL2, HB⟩ := hrel
  obtain ⟨fa, fn, fc, hform⟩ := row_form HR.out
  subst hform
  by_cases hlt : k < ks.length
  ·have i1 : (0 : Int) ≤ (k : Int) := Int.natCast_nonneg _
   have i2 : (k : Int) < (ks.length : Int) := by omega
   have bwr := keepS HB0.out HB.out
   have q0 := ((HKS.out.below bwr).2 k hlt)
   have hwf := HKW.out _ (gI_mem hlt)
   obtain ⟨ki, hki⟩ : ∃ ki, gI ks k = ki := ⟨_, rfl⟩
   rw [hki] at q0 hwf
   have HTK : Hid (ks.take (k + 1) = ks.take k ++ [ki]) := hid (by rw [gI_take hlt, hki])
   have X := HX0.out.below HB.out HX0.out.lt
   have x0' := X.c0
   have x1' := X.c1
   have x2' := X.c2
   have hv := HV.out.trans (bwr.mono HV.out.size)
   have hat := atC p a cp ki B c N _ wr hp Hs.out hwf (HSG.out.below bwr) (HT.out.tre.below hv)
   rw [HRT.out] at hat
   have HAT := hid hat
   have HDT := hid (fun w1 (b1 : RowKit.Below wr.heap.size wr w1) => dotsAny HT.out HRT.out HH.out.1 HH.out.2.1 HH.out.2.2 (wayOf p ki) w1 (hv.trans (b1.mono hv.size)))
   obtain ⟨m0, hm0⟩ : ∃ m, mF (N (wayOf p ki)) = m := ⟨_, rfl⟩
   obtain ⟨m1, hm1⟩ : ∃ m, mS (N (wayOf p ki)) = m := ⟨_, rfl⟩
   rw [hm0, hm1] at HAT HDT
   clear hki hwf X hv hat bwr hm0 hm1
   dsimp only [mF, mS, Option.map] at HAT
   go_wp2_with fail
   refine HAT.out.mono ?_
   rintro e w1 ⟨rfl, b1⟩
   have HB1 := hid b1
   clear b1 q0 x0' x1' x2'
   go_wp2_with fail
   refine (HDT.out w1 HB1.out).mono ?_
   rintro e w2 ⟨⟨v2, t2, rfl, hd2, hm2, hl2⟩, b2⟩
   have b2' := keepS HB1.out b2
   have hdr := HR.out.below b2'
   have hB2 := HB.out.trans (b2'.mono HB.out.size)
   have hcw : cW J (wayOf p ki) ≤ 1000 := Nat.le_trans (cW_le _ _) HH.out.2.1
   obtain ⟨v3, w3, hr3, hd3, hg3⟩ := dotsApp W.heap.size w1.heap.size (.slice fa fn fc) v2 ts t2 w2 102 hdr hd2 hB2.size (by have := HL2.out; rw [hl2]; omega)
   have HB3 : Hid (RowKit.Below W.heap.size W w3) := hid (hB2.grown hg3.g hB2.size (fun k hk => (World.ownsRow.lt hdr k hk).1))
   have HD3 := hid hd3
   have HM3 : Hid (∀ d, d ∈ ts ++ t2 ↔ ∃ k' ∈ ks.take (k + 1), DtW J (wayOf p k') d) := hid (fun d => by
    rw [HTK.out, List.mem_append, HM.out d, hm2 d]
    constructor
    ·rintro (⟨k', hk', h⟩ | h)
     ·exact ⟨k', List.mem_append_left _ hk', h⟩
     ·exact ⟨ki, by simp, h⟩
    ·rintro ⟨k', hk', h⟩
     rcases List.mem_append.1 hk' with hk' | hk'
     ·exact .inl ⟨k', hk', h⟩
     ·rw [List.mem_singleton.1 hk'] at h; exact .inr h)
   have HL3 : Hid ((ts ++ t2).length = ((ks.take (k + 1)).map fun k => cW J (wayOf p k)).sum) := hid (by rw [HTK.out, List.length_append, HL.out, hl2]; simp)
   have HL4 : Hid ((ts ++ t2).length ≤ (k + 1) * 1000) := hid (by rw [List.length_append, hl2]; have := HL2.out; omega)
   obtain ⟨ga, gn, gc, hform⟩ := row_form hd3
   subst hform
   clear b2 b2' hdr hB2 hd2 hm2 hl2 hd3 hg3 hcw
   go_wp2_with (at_builtin; refine wpList_app2 rfl _ _ _ _ rfl hr3 rfl rfl rfl ?_)
   go_roundw
   case rel => exact ⟨k + 1, ts ++ t2, hlt, by go_num, HD3, HM3, HL3, HL4, HB3⟩
   case measure => simp [intOf]; omega
  ·obtain rfl : k = ks.length := by omega
   have HE : Hid ((∀ d, d ∈ ts ↔ ∃ k ∈ ks, DtW J (wayOf p k) d) ∧ ts.length = (ks.map fun k => cW J (wayOf p k)).sum) := hid ⟨fun d => by have := HM.out d; rw [List.take_length] at this; exact this, by have := HL.out; rw [List.take_length] at this; exact this⟩
   have HRW : Hid (DR wr w.heap.size (.slice fa fn fc) ts) := hid (HR.out.weak HB0.out.size)
   go_wp2_with fail
   go_ret
   exact ⟨⟨_, ts, rfl, HRW.out, HE.out.1, HE.out.2⟩, keepS HB0.out HB.out⟩
end Go.Proofs.YtcbcabhjododoaaGreat
