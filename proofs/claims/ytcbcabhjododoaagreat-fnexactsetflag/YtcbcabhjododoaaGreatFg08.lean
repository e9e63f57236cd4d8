import Derived.Test.YtcbcabhjododoaaGreatFg07
set_option linter.unusedVariables false
set_option linter.unusedSimpArgs false
set_option maxRecDepth 100000
set_option maxHeartbeats 40000000
namespace Go.Proofs.YtcbcabhjododoaaGreat
open Go.ChangeShapes Go.WideShapes Go.ChangeAt Go.RowKit Go.Maps
theorem Tryz.infoSpan : (Tryz.prog.info? 135).map (fun i => (i.zero, i.size, i.bytes)) = some (some (.agg #[.int .i64 0, .int .i64 0]), 2, 16) := by kernel_rfl
theorem ready2 {P : Program} {ops : Array Oper} {Q : Exit → Act → World → Prop} {md : Region.Mode} {S : World → Prop} {i j : Nat} {d d' : Option Tmp} {fuel : Nat} {listed : Array Bool} {a : Act} {w : World}
  (hd : ops[i]?.map (fun o => o.dst) = some d) (hd' : ops[j]?.map (fun o => o.dst) = some d') (hr : Region.ready md ops listed = [i, j])
  (h : ∀ o, ops[i]? = some o → o.dst = d → ∀ K' : Act → World → Prop, Shut (∀ a w, S w → (S w → wpAnyH P md ops Q S fuel (listed.setIfInBounds i true) a w) → K' a w) → if Region.wanted o (yielded ops a.tmps) = true then Oper.wp P o a w K' Q else K' (a.put o.dst undef) w)
  (h' : ∀ o, ops[j]? = some o → o.dst = d' → ∀ K' : Act → World → Prop, Shut (∀ a w, S w → (S w → wpAnyH P md ops Q S fuel (listed.setIfInBounds j true) a w) → K' a w) → if Region.wanted o (yielded ops a.tmps) = true then Oper.wp P o a w K' Q else K' (a.put o.dst undef) w) :
  wpAnyH P md ops Q S (fuel + 1) listed a w := by
 obtain ⟨o, ho, hod⟩ := Option.map_eq_some_iff.1 hd
 obtain ⟨o', ho', hod'⟩ := Option.map_eq_some_iff.1 hd'
 exact wpAnyH_ready hr (by simp) (AllReadyH.cons ho (h o ho hod) (AllReadyH.cons ho' (h' o' ho' hod') AllReadyH.nil))
theorem wp_app_at {P : Program} {o : Oper} {a : Act} {w : World} {K : Act → World → Prop} {Q : Exit → Act → World → Prop} (s x : Operand) (t : TypeId)
  (ho : o.op = .call { callee := .builtin .append, args := #[s, x], argTypes := #[t, t] })
  (base : Nat) (e : TypeId) (i : TypeInfo) (z : Value) (size bytes : Nat) (ht : P.underlying t = some (.slice e)) (hi : P.info? e = some i) (hz : i.zero = some z)
  (hsize : i.size = size) (hby : i.bytes = bytes) (hzs : z.cells.size = size) (hsz : 0 < size)
  (v : Value) (n : Nat) (xs : List Value) (hs : a.eval s = v) (hown : w.ownsRow base e size v n xs)
  (ad : Addr) (m c : Nat) (news : List Value) (hx : a.eval x = .slice (some ad) m c) (hl : news.length = m * size) (hnews : ∀ j u, news[j]? = some u → w.cell? (ad.add j) = some u) (h1 : ∀ u ∈ news, u.oneCell' = true)
  (h63 : n + m ≤ maxLen) (hbytes : (n + m) * bytes ≤ 140737488355328) (hbase : base ≤ w.heap.size)
  (h : ∀ v' w', w'.ownsRow base e size v' (n + m) (xs ++ news) → w.grownBy w' v.ownBlock → (v'.ownBlock = v.ownBlock ∨ v'.ownBlock = some w.heap.size) → K (a.put o.dst v') w') : o.wp P a w K Q := by
 obtain ⟨v', w', hr, h2, h3, h4, h5⟩ := run_append_own_at (P := P) w base t o.type e i z size bytes ht hi hz hsize hby hzs hsz v n xs hown ad m c news hl hnews h1 h63 hbytes hbase
 unfold Oper.wp execOp
 simp only [ho, resolve, invoke, builtin, Sem.run_bind, Sem.run_pure, Result.andThen_ok, List.map_toArray, List.map_cons, List.map_nil, hs, hx, hr]
 exact h v' w' h2 h3 h5
theorem wp_put_own {H : Type} {P : Program} (w : World) {o : Oper} {a : Act} {K : Act → World → Prop} {Q : Exit → Act → World → Prop}
  (m x v : Operand) (t : TypeId) (hop : o.op = Op.mapUpdate t m x v)
  (k e : TypeId) (Kd : Keyed P k) (ht : P.underlying t = some (.map k e)) (R : Value → Option (DataW H × List MemPlace)) (b n : Nat) (D : DataW H)
  (hm : a.eval m = .map (some b)) (hown : w.ownsMap P k R b n D) (hn : n < maxLen) (key val : Value) (kl : Lit) (hx : a.eval x = key) (hv : a.eval v = val) (hkey : keyOf P k key = some kl)
  (d : DataW H) (ps : List MemPlace) (hval : R val = some (d, ps))
  (hK : ∀ w', w'.ownsMap P k R b (n + 1) (D.put kl d) → w.grownBy w' (some b) → K (a.put o.dst undef) w') : o.wp P a w K Q := by
 obtain ⟨w', hrun, r1, r2⟩ := hown.update Kd ht hn hkey hval
 unfold Oper.wp
 simp [execOp, hop, hm, hx, hv, hrun, Result.andThen]
 exact hK _ r1 r2
theorem grp_made (w : World) : GrpAt (w.alloc (.map #[] 0)) w.heap.size 0 (.map []) (fun _ => .slice none 0 0) (fun _ => []) :=
 ⟨World.ownsMap_made w _ _ _, fun r => rfl, fun r => rfl, fun r => World.ownsRow_nil _ _ _ _, fun r r' g h _ => by cases h⟩
theorem keep3 {w w' : World} {row : Option Nat} {B : Nat} {x y z : Value} (hg : w.grownBy w' row) (h0 : w.cell? ⟨B, 0, none⟩ = some x) (h1 : w.cell? ⟨B, 1, none⟩ = some y) (h2 : w.cell? ⟨B, 2, none⟩ = some z) (hne : some B ≠ row) :
  w'.cell? ⟨B, 0, none⟩ = some x ∧ w'.cell? ⟨B, 1, none⟩ = some y ∧ w'.cell? ⟨B, 2, none⟩ = some z := ⟨hg.cell h0 hne, hg.cell h1 hne, hg.cell h2 hne⟩
theorem openC (a : Option Addr) (n c : Nat) (R F T : Nat → Int) (w : World) (hn : n ≤ 1048576) (h : RSeg w a n R F T) (hok : ctxB R F T n = true) :
  Calls Tryz.prog 89 #[.agg #[.slice a n c]] w fun e w' => ∃ bm D G, e = .returned (.tuple #[.map (some bm), .bool true]) ∧ GrpAt w' bm n D G (Lk R F T n) ∧ w.heap.size ≤ bm ∧ Below w.heap.size w w' := by
 have hmm := @run_makeMap Tryz.prog
 have hokT := (ctxB_iff.1 hok)
 obtain ⟨i0, hi, hz0, hz1, hz2⟩ := info_parts Tryz.infoSpan
 have B0 : Below w.heap.size w (w.alloc (.cells #[.slice a n c] 34)) := (Below.refl _ _).alloc (Nat.le_refl _) _
 have HOK := hid hokT
 clear hokT
 go_enter Tryz.func89, Tryz.ntmps89
 go_wp2_with fail
 refine (implOk a n c R F T _ hn (h.below B0)).mono ?_
 rintro e w1 ⟨rfl, b1⟩
 rw [hok]
 have hbox : w1.cell? ⟨w.heap.size, 0, none⟩ = some (.slice a n c) := by rw [(bcell b1).1 _ _ (by simp)]; simp
 have B1 := keepS B0 b1
 have z1 : w.heap.size < w1.heap.size := by have := b1.size; simp at this; omega
 clear b1 B0 hok
 rcases h with h | ⟨b, off, rfl, hb, hc⟩
 ·subst h
  have HB1 := hid B1
  clear B1
  go_wp2_with fail
  refine wp_loop_rounds 1 ?_; rw [rounds_succ]; go_wp2_with fail
  go_ret2
  exact ⟨w1.heap.size, _, _, rfl, grp_made w1, by omega, (HB1.out.alloc (by omega) _)⟩
 have HB1 := hid B1
 clear B1
 go_wp2_with fail
 go_loopw [14] (fun i wr => ∃ (k : Nat) (D : DataW Value) (G : Int → Value), k ≤ n ∧ i = .int .i64 k ∧ GrpAt wr w1.heap.size k D G (Lk R F T k) ∧ Below w.heap.size w wr ∧ w1.heap.size < wr.heap.size) (fun i _ => n - (intOf i).toNat)
 case atStart => exact ⟨0, _, _, Nat.zero_le _, rfl, grp_made w1, HB1.out.alloc (by omega) _, by simp⟩
 case round =>
  obtain ⟨k, D, G, hk, rfl, hgrp, hbel, hsz⟩ := hrel
  by_cases hlt : k < n
  ·have hck : wr.cell? ⟨b, off + k * 3, none⟩ = some (.int .i64 (R k)) := (hbel.cell (p := ⟨b, _, none⟩) hb).trans (hc k hlt).1
   have hck1 : wr.cell? ⟨b, off + k * 3 + 1, none⟩ = some (.int .i64 (F k)) := (hbel.cell (p := ⟨b, _, none⟩) hb).trans (hc k hlt).2.1
   have hck2 : wr.cell? ⟨b, off + k * 3 + 2, none⟩ = some (.int .i64 (T k)) := (hbel.cell (p := ⟨b, _, none⟩) hb).trans (hc k hlt).2.2
   have hro := runOk_iff.1 ((HOK.out.1 k hlt).1)
   have hwf : (Lit.int .i64 (R k)).wf = true := wfI (by omega) (by omega)
   have hln := HOK.out.2
   have hL := Lk_len R F T k (R k)
   obtain ⟨W1, hW1⟩ : ∃ W1, wr.alloc (.cells #[.int .i64 (R k), .int .i64 (F k), .int .i64 (T k)] 94) = W1 := ⟨_, rfl⟩
   have zW : W1.heap.size = wr.heap.size + 1 := by rw [← hW1]; simp
   have bW : Below wr.heap.size wr W1 := by rw [← hW1]; exact (Below.refl _ _).alloc (Nat.le_refl _) _
   have r0 : W1.cell? ⟨wr.heap.size, 0, none⟩ = some (.int .i64 (R k)) := by rw [← hW1]; simp
   have r1 : W1.cell? ⟨wr.heap.size, 1, none⟩ = some (.int .i64 (F k)) := by rw [← hW1]; simp
   have r2 : W1.cell? ⟨wr.heap.size, 2, none⟩ = some (.int .i64 (T k)) := by rw [← hW1]; simp
   have hmne : some w1.heap.size ≠ (G (R k)).ownBlock := fun e => by have := ((hgrp.rows (R k)).lt _ e.symm).1; omega
   have hne : some wr.heap.size ≠ (G (R k)).ownBlock := fun e => by have := ((hgrp.rows (R k)).lt _ e.symm).2; omega
   have g1 := hgrp.below (bW.drew)
   have hl1 := g1.look (R k) hwf
   obtain ⟨W2, hW2⟩ : ∃ W2, W1.alloc (.cells #[.int .i64 (F k), .int .i64 (T k)] 135) = W2 := ⟨_, rfl⟩
   have bW12 : Below W1.heap.size W1 W2 := by rw [← hW2]; exact (Below.refl _ _).alloc (Nat.le_refl _) _
   have hW2s : W2.drew.heap.size = wr.heap.size + 2 := by show W2.heap.size = _; rw [← hW2]; simp; omega
   have b2 : Below wr.heap.size wr W2.drew := (bW.trans (bW12.mono (by omega))).drew
   have g2 := hgrp.below b2
   have hl2 := g2.look (R k) hwf
   have HNEW : Hid (∀ j u, [Value.int .i64 (F k), .int .i64 (T k)][j]? = some u → W2.drew.cell? ((⟨wr.heap.size + 1, 0, none⟩ : Addr).add j) = some u) := by rw [← hW2, ← zW]; exact cell_two_new _ _ _ _
   have HROW := hid (g2.rows (R k))
   have HMAP := hid g2.own
   have HGRP := hid hgrp
   have HB2 := hid b2
   have HB := hid hbel
   have c20 := (bW12.cell (p := ⟨wr.heap.size, 0, none⟩) (show wr.heap.size < W1.heap.size by omega)).trans r0
   have c21 := (bW12.cell (p := ⟨wr.heap.size, 1, none⟩) (show wr.heap.size < W1.heap.size by omega)).trans r1
   have c22 := (bW12.cell (p := ⟨wr.heap.size, 2, none⟩) (show wr.heap.size < W1.heap.size by omega)).trans r2
   clear hgrp hbel g1 g2 b2 bW bW12 hro hc
   go_wp2_with fail
   try rw [hW1]
   clear hck hck1 hck2 hW1
   refine wp_region_held_drew (S := fun w' => w'.cell? ⟨wr.heap.size, 0, none⟩ = some (.int .i64 (R k)) ∧ w'.cell? ⟨wr.heap.size, 1, none⟩ = some (.int .i64 (F k)) ∧ w'.cell? ⟨wr.heap.size, 2, none⟩ = some (.int .i64 (T k))) (by kernel_rfl) ⟨r0, r1, r2⟩ (fun hHeld => ?_)
   refine tk 0 18 ?_ (by kernel_rfl) (fun _ _ _ h => h) ?_ hHeld (tk 1 19 ?_ (by kernel_rfl) (fun _ _ _ h => h) ?_ hHeld (tk 2 20 ?_ (by kernel_rfl) (fun _ _ _ h => h) ?_ hHeld (tk 3 21 ?_ (by kernel_rfl) (fun _ _ _ h => h) ?_ hHeld (tk 4 22 ?_ (by kernel_rfl) (fun _ _ _ h => h) ?_ hHeld ?_))))
   iterate 5 (rotate_left; focus (intro o ho; simp only [gZa, gZb, gZc, gZd] at ho; subst ho; refine Or.inl ⟨by rfl, ?_⟩; intro w hSw; (try dsimp only at hSw); (try simp only [Act.put, sZa, sZb, sZc]); go_simp; try with_reducible rfl))
   try simp only [Act.put, sZa, sZb, sZc]
   refine tk 5 23 ?_ (by kernel_rfl) (fun _ _ _ h => h) ?_ hHeld (tk 7 25 ?_ (by kernel_rfl) (fun _ _ _ h => h) ?_ hHeld (tk 8 26 ?_ (by kernel_rfl) (fun _ _ _ h => h) ?_ hHeld (tk 9 27 ?_ (by kernel_rfl) (fun _ _ _ h => h) ?_ hHeld (tk 10 28 ?_ (by kernel_rfl) (fun _ _ _ h => h) ?_ hHeld ?_))))
   iterate 5 (rotate_left; focus (intro o ho; simp only [gZa, gZb, gZc, gZd] at ho; subst ho; refine Or.inl ⟨by rfl, ?_⟩; intro w hSw; (try dsimp only at hSw); (try simp only [Act.put, sZa, sZb, sZc]); go_simp; try with_reducible rfl))
   try simp only [Act.put, sZa, sZb, sZc]
   refine tk 11 29 ?_ (by kernel_rfl) (fun _ _ _ h => h) ?_ hHeld ?_
   rotate_left
   ·(intro o ho; simp only [gZa, gZb, gZc, gZd] at ho; subst ho; refine Or.inl ⟨by rfl, ?_⟩; intro w hSw; (try dsimp only at hSw); go_simp; try with_reducible rfl)
   try simp only [Act.put, sZa, sZb, sZc]
   refine ready2 (i := 6) (j := 12) (d := some 24) (d' := some 30) (by kernel_rfl) (by kernel_rfl) (by kernel_rfl) ?_ ?_
   ·intro o ho hod K hK; simp only [gZa, gZb, gZc, gZd] at ho; subst ho
    go_simp
    refine hK.out _ _ ⟨r0, r1, r2⟩ (fun hHeld => ?_)
    clear hK K
    try simp only [Act.put, sZa, sZb, sZc]
    refine call1 (i := 12) (d := some 30) (by kernel_rfl) (by kernel_rfl) ?_
    intro o ho hod K hK; simp only [gZa, gZb, gZc, gZd] at ho; subst ho
    go_simp
    try rw [hW2]
    have BC := And.intro c20 (And.intro c21 c22)
    refine hK.out _ _ ⟨BC.1, BC.2.1, BC.2.2⟩ (fun hHeld => ?_)
    clear hK K
    try simp only [Act.put, sZa, sZb, sZc]
    refine call1 (i := 13) (d := some 31) (by kernel_rfl) (by kernel_rfl) ?_
    intro o ho hod K hK; simp only [gZa, gZb, gZc, gZd] at ho; subst ho
    rw [if_pos (by rfl)]
    refine wp_app_at _ _ _ (by rfl) (w1.heap.size + 1) 135 i0 _ 2 16 Tryz.underlying132 hi hz0 hz1 hz2 rfl (by decide) (G (R k)) (Lk R F T k (R k)).length _ (by rfl) HROW.out ⟨wr.heap.size + 1, 0, none⟩ 1 1 [.int .i64 (F k), .int .i64 (T k)] (by rfl) (by rfl) HNEW.out (by intro u hu; simp at hu; rcases hu with rfl | rfl <;> rfl) (by unfold maxLen; omega) (by omega) (by rw [hW2s]; omega) ?_
    intro v' w3 hown3 hgr3 hloc3
    have BD := keep3 hgr3 BC.1 BC.2.1 BC.2.2 hne
    refine hK.out _ _ ⟨BD.1, BD.2.1, BD.2.2⟩ (fun hHeld => ?_)
    clear hK K
    try simp only [Act.put, sZa, sZb, sZc]
    refine call1 (i := 14) (d := none) (by kernel_rfl) (by kernel_rfl) ?_
    intro o ho hod K hK; simp only [gZa, gZb, gZc, gZd] at ho; subst ho
    rw [if_pos (by rfl)]
    refine wp_put_own _ _ _ _ _ (by rfl) 3 132 (int_keyed Tryz.underlying3) Tryz.underlying66 rawR w1.heap.size k D (by rfl) (HMAP.out.kept hgr3 hmne) (by unfold maxLen; omega) (.int .i64 (R k)) v' (kI (R k)) (by rfl) (by rfl) (keyOf_int_mk Tryz.underlying3 hwf) (.held v') [] (rawR_own hown3) ?_
    intro w4 hown4 hgr4
    have BE := keep3 hgr4 BD.1 BD.2.1 BD.2.2 (by simp; omega)
    refine hK.out _ _ ⟨BE.1, BE.2.1, BE.2.2⟩ (fun hHeld => ?_)
    clear hK K
    try simp only [Act.put, sZa, sZb, sZc]
    refine wpAnyH_done (by kernel_rfl) ?_ _
    have HG := hid (HGRP.out.step (v' := v') HB2.out hown3 hgr3 hloc3 hown4 hgr4)
    have HZ := hid (Nat.le_trans hgr3.size hgr4.size)
    have HB4 := hid (((HB.out.trans (HB2.out.mono (by omega))).grown hgr3 (by omega) (fun k hk => by have := (HROW.out.lt k hk).1; omega)).grown hgr4 (by have := hgr3.size; omega) (fun k hk => by injection hk with hk; omega))
    clear hHeld BC BD BE hown3 hgr3 hloc3 hown4 hgr4
    go_wp2_with fail
    go_roundw
    case rel => exact ⟨k + 1, _, _, hlt, by go_num, HG.out, HB4.out, by have := HZ.out; omega⟩
    case measure => simp [intOf]; omega
   ·intro o ho hod K hK; simp only [gZa, gZb, gZc, gZd] at ho; subst ho
    go_simp
    try rw [hW2]
    have BC := And.intro c20 (And.intro c21 c22)
    refine hK.out _ _ ⟨BC.1, BC.2.1, BC.2.2⟩ (fun hHeld => ?_)
    clear hK K
    try simp only [Act.put, sZa, sZb, sZc]
    refine call1 (i := 6) (d := some 24) (by kernel_rfl) (by kernel_rfl) ?_
    intro o ho hod K hK; simp only [gZa, gZb, gZc, gZd] at ho; subst ho
    go_simp
    refine hK.out _ _ ⟨BC.1, BC.2.1, BC.2.2⟩ (fun hHeld => ?_)
    clear hK K
    try simp only [Act.put, sZa, sZb, sZc]
    refine call1 (i := 13) (d := some 31) (by kernel_rfl) (by kernel_rfl) ?_
    intro o ho hod K hK; simp only [gZa, gZb, gZc, gZd] at ho; subst ho
    rw [if_pos (by rfl)]
    refine wp_app_at _ _ _ (by rfl) (w1.heap.size + 1) 135 i0 _ 2 16 Tryz.underlying132 hi hz0 hz1 hz2 rfl (by decide) (G (R k)) (Lk R F T k (R k)).length _ (by rfl) HROW.out ⟨wr.heap.size + 1, 0, none⟩ 1 1 [.int .i64 (F k), .int .i64 (T k)] (by rfl) (by rfl) HNEW.out (by intro u hu; simp at hu; rcases hu with rfl | rfl <;> rfl) (by unfold maxLen; omega) (by omega) (by rw [hW2s]; omega) ?_
    intro v' w3 hown3 hgr3 hloc3
    have BD := keep3 hgr3 BC.1 BC.2.1 BC.2.2 hne
    refine hK.out _ _ ⟨BD.1, BD.2.1, BD.2.2⟩ (fun hHeld => ?_)
    clear hK K
    try simp only [Act.put, sZa, sZb, sZc]
    refine call1 (i := 14) (d := none) (by kernel_rfl) (by kernel_rfl) ?_
    intro o ho hod K hK; simp only [gZa, gZb, gZc, gZd] at ho; subst ho
    rw [if_pos (by rfl)]
    refine wp_put_own _ _ _ _ _ (by rfl) 3 132 (int_keyed Tryz.underlying3) Tryz.underlying66 rawR w1.heap.size k D (by rfl) (HMAP.out.kept hgr3 hmne) (by unfold maxLen; omega) (.int .i64 (R k)) v' (kI (R k)) (by rfl) (by rfl) (keyOf_int_mk Tryz.underlying3 hwf) (.held v') [] (rawR_own hown3) ?_
    intro w4 hown4 hgr4
    have BE := keep3 hgr4 BD.1 BD.2.1 BD.2.2 (by simp; omega)
    refine hK.out _ _ ⟨BE.1, BE.2.1, BE.2.2⟩ (fun hHeld => ?_)
    clear hK K
    try simp only [Act.put, sZa, sZb, sZc]
    refine wpAnyH_done (by kernel_rfl) ?_ _
    have HG := hid (HGRP.out.step (v' := v') HB2.out hown3 hgr3 hloc3 hown4 hgr4)
    have HZ := hid (Nat.le_trans hgr3.size hgr4.size)
    have HB4 := hid (((HB.out.trans (HB2.out.mono (by omega))).grown hgr3 (by omega) (fun k hk => by have := (HROW.out.lt k hk).1; omega)).grown hgr4 (by have := hgr3.size; omega) (fun k hk => by injection hk with hk; omega))
    clear hHeld BC BD BE hown3 hgr3 hloc3 hown4 hgr4
    go_wp2_with fail
    go_roundw
    case rel => exact ⟨k + 1, _, _, hlt, by go_num, HG.out, HB4.out, by have := HZ.out; omega⟩
    case measure => simp [intOf]; omega
  ·obtain rfl : k = n := by omega
   have HG := hid hgrp
   have HB := hid hbel
   clear hgrp hbel hc
   go_wp2_with fail
   go_ret2
   exact ⟨w1.heap.size, D, G, rfl, HG.out, by omega, HB.out⟩
def topK (R T : Nat → Int) (rep : Int) : Nat → Int
 | 0 => 0
 | k + 1 => if R k = rep ∧ topK R T rep k < T k then T k else topK R T rep k
def lastTo (l : List (Int × Int)) : Int := match l.getLast? with | none => 0 | some p => p.2
theorem lastTo_snoc (l : List (Int × Int)) (p : Int × Int) : lastTo (l ++ [p]) = p.2 := by simp [lastTo]
theorem lastTo_nil : lastTo [] = 0 := rfl
theorem Lk_inv {R F T : Nat → Int} : ∀ k : Nat, okTo R F T k → (∀ r, Lk R F T k r ≠ [] → 0 < k ∧ r ≤ R (k - 1)) ∧ (0 < k → lastTo (Lk R F T k (R (k - 1))) = T (k - 1)) ∧ (∀ r, topK R T r k = lastTo (Lk R F T k r)) ∧ (∀ r, 0 ≤ lastTo (Lk R F T k r) ∧ lastTo (Lk R F T k r) ≤ 1000000000)
 | 0, _ => ⟨fun r h => absurd rfl h, fun h => absurd h (by omega), fun r => rfl, fun r => by simp [Lk, lastTo]⟩
 | k + 1, h => by
  have hk : okTo R F T k := fun i hi => h i (by omega)
  obtain ⟨i1, i2, i3, i4⟩ := Lk_inv k hk
  have ho := runOk_iff.1 (h k (by omega)).1
  have hap : 0 < k → (R (k - 1) < R k ∨ (R (k - 1) = R k ∧ T (k - 1) + 1 < F k)) := fun h0 => by
   have := (h k (by omega)).2 h0
   unfold apartB at this
   exact of_decide_eq_true this
  have e1 : ∀ r, Lk R F T (k + 1) r = upd (Lk R F T k) (R k) (Lk R F T k (R k) ++ [(F k, T k)]) r := fun r => rfl
  have hlt : lastTo (Lk R F T k (R k)) < T k := by
   by_cases hn : Lk R F T k (R k) = []
   ·rw [hn, lastTo_nil]; omega
   ·obtain ⟨h0, hle⟩ := i1 (R k) hn
    rcases hap h0 with hh | ⟨hh, h2⟩
    ·omega
    ·rw [← hh, i2 h0]; omega
  refine ⟨fun r hr => ?_, fun _ => ?_, fun r => ?_, fun r => ?_⟩
  ·refine ⟨by omega, ?_⟩
   rw [Nat.add_sub_cancel]
   rw [e1] at hr
   by_cases e : r = R k
   ·omega
   ·rw [upd_other _ _ e] at hr
    obtain ⟨h0, hle⟩ := i1 r hr
    rcases hap h0 with hh | ⟨hh, _⟩ <;> omega
  ·rw [Nat.add_sub_cancel, e1, upd_same, lastTo_snoc]
  ·rw [e1]
   by_cases e : r = R k
   ·subst e
    rw [upd_same, lastTo_snoc]
    show (if R k = R k ∧ topK R T (R k) k < T k then T k else topK R T (R k) k) = T k
    rw [if_pos ⟨rfl, by rw [i3]; exact hlt⟩]
   ·rw [upd_other _ _ e, ← i3 r]
    show (if R k = r ∧ topK R T r k < T k then T k else topK R T r k) = topK R T r k
    rw [if_neg (fun hh => e hh.1.symm)]
  ·rw [e1]
   by_cases e : r = R k
   ·subst e; rw [upd_same, lastTo_snoc]; show 0 ≤ T k ∧ T k ≤ 1000000000; omega
   ·rw [upd_other _ _ e]; exact i4 r
def Srt (l : List (Int × Int)) : Prop := l.Pairwise (fun p q => p.2 + 1 < q.1) ∧ ∀ p ∈ l, 1 ≤ p.1 ∧ p.1 ≤ p.2 ∧ p.2 ≤ 1000000000
theorem Lk_srt {R F T : Nat → Int} : ∀ k : Nat, okTo R F T k → ∀ r, Srt (Lk R F T k r) ∧ ∀ p ∈ Lk R F T k r, p.2 ≤ lastTo (Lk R F T k r)
 | 0, _ => fun r => ⟨⟨List.Pairwise.nil, fun p hp => by cases hp⟩, fun p hp => by cases hp⟩
 | k + 1, h => by
  have hk : okTo R F T k := fun i hi => h i (by omega)
  have ih := Lk_srt k hk
  obtain ⟨i1, i2, i3, i4⟩ := Lk_inv k hk
  have ho := runOk_iff.1 (h k (by omega)).1
  have hap : 0 < k → (R (k - 1) < R k ∨ (R (k - 1) = R k ∧ T (k - 1) + 1 < F k)) := fun h0 => by
   have := (h k (by omega)).2 h0
   unfold apartB at this
   exact of_decide_eq_true this
  intro r
  show Srt (upd (Lk R F T k) (R k) (Lk R F T k (R k) ++ [(F k, T k)]) r) ∧ ∀ p ∈ upd (Lk R F T k) (R k) (Lk R F T k (R k) ++ [(F k, T k)]) r, p.2 ≤ lastTo (upd (Lk R F T k) (R k) (Lk R F T k (R k) ++ [(F k, T k)]) r)
  by_cases e : r = R k
  ·subst e
   rw [upd_same]
   obtain ⟨⟨p1, p2⟩, p3⟩ := ih (R k)
   have hlt : ∀ p ∈ Lk R F T k (R k), p.2 + 1 < F k := by
    intro p hp
    obtain ⟨h0, hle⟩ := i1 (R k) (List.ne_nil_of_mem hp)
    have := p3 p hp
    rcases hap h0 with hh | ⟨hh, h2⟩
    ·omega
    ·rw [← hh, i2 h0] at this; omega
   refine ⟨⟨List.pairwise_append.2 ⟨p1, List.pairwise_singleton _ _, fun p hp q hq => ?_⟩, fun p hp => ?_⟩, fun p hp => ?_⟩
   ·rw [List.mem_singleton] at hq; subst hq; exact hlt p hp
   ·rcases List.mem_append.1 hp with hp | hp
    ·exact p2 p hp
    ·rw [List.mem_singleton] at hp; subst hp; exact ⟨by omega, by omega, by omega⟩
   ·rw [lastTo_snoc]
    rcases List.mem_append.1 hp with hp | hp
    ·have := hlt p hp; show p.2 ≤ T k; omega
    ·rw [List.mem_singleton] at hp; subst hp; exact Int.le_refl _
  ·rw [upd_other _ _ e]; exact ih r
def SS (w : World) (a : Option Addr) (n : Nat) (f t : Nat → Int) : Prop :=
 n = 0 ∨ ∃ b off, a = some ⟨b, off, none⟩ ∧ b < w.heap.size ∧ ∀ i, i < n → w.cell? ⟨b, off + i * 2, none⟩ = some (.int .i64 (f i)) ∧ w.cell? ⟨b, off + i * 2 + 1, none⟩ = some (.int .i64 (t i))
theorem ss_own {w : World} {B n cap g : Nat} {l : List (Int × Int)} (h : w.ownsRow B 135 2 (.slice (some ⟨g, 0, none⟩) n cap) n (spanCells l)) (hl : l.length = n) :
  SS w (some ⟨g, 0, none⟩) n (fun i => (l.getD i (0, 0)).1) (fun i => (l.getD i (0, 0)).2) := by
 refine .inr ⟨g, 0, rfl, (h.lt g rfl).2, fun i hi => ?_⟩
 have key : ∀ (l : List (Int × Int)) (i : Nat), i < l.length → (spanCells l)[i * 2]? = some (.int .i64 (l.getD i (0, 0)).1) ∧ (spanCells l)[i * 2 + 1]? = some (.int .i64 (l.getD i (0, 0)).2) := by
  intro l
  induction l with
  | nil => intro i hi; simp at hi
  | cons a l ih =>
   intro i hi
   cases i with
   | zero => simp [spanCells]
   | succ i =>
    have := ih i (by simpa using hi)
    have e : spanCells (a :: l) = .int .i64 a.1 :: .int .i64 a.2 :: spanCells l := by simp [spanCells]
    rw [e, show (i + 1) * 2 = i * 2 + 1 + 1 from by omega]
    simpa using this
 rw [Nat.zero_add, h.cellAt _ (by omega), h.cellAt _ (by omega)]
 exact key l i (by omega)
theorem srt_get {l : List (Int × Int)} (h : Srt l) {i j : Nat} (hij : i < j) (hj : j < l.length) : (l.getD i (0, 0)).2 + 1 < (l.getD j (0, 0)).1 ∧ (l.getD i (0, 0)).1 ≤ (l.getD i (0, 0)).2 ∧ (l.getD j (0, 0)).1 ≤ (l.getD j (0, 0)).2 := by
 have e1 : l.getD i (0, 0) = l[i] := by simp [List.getD, show i < l.length by omega]
 have e2 : l.getD j (0, 0) = l[j] := by simp [List.getD, hj]
 rw [e1, e2]
 exact ⟨List.pairwise_iff_getElem.1 h.1 i j (by omega) hj hij, (h.2 _ (List.getElem_mem _)).2.1, (h.2 _ (List.getElem_mem _)).2.1⟩
theorem openC_no (a : Option Addr) (n c : Nat) (R F T : Nat → Int) (w : World) (hn : n ≤ 1048576) (h : RSeg w a n R F T) (hok : ctxB R F T n = false) :
  Calls Tryz.prog 89 #[.agg #[.slice a n c]] w fun e w' => e = .returned (.tuple #[.map none, .bool false]) ∧ Below w.heap.size w w' := by
 have B0 : Below w.heap.size w (w.alloc (.cells #[.slice a n c] 34)) := (Below.refl _ _).alloc (Nat.le_refl _) _
 go_enter Tryz.func89, Tryz.ntmps89
 go_wp2_with fail
 refine (implOk a n c R F T _ hn (h.below B0)).mono ?_
 rintro e w1 ⟨rfl, b1⟩
 rw [hok]
 have HB := hid (keepS B0 b1)
 clear b1 B0 hok h
 go_wp2_with fail
 go_ret2
 exact ⟨rfl, HB.out⟩
theorem last_cell {w : World} {B g n cap : Nat} {l : List (Int × Int)} (h : w.ownsRow B 135 2 (.slice (some ⟨g, 0, none⟩) n cap) n (spanCells l)) (hl : l.length = n) (h0 : 0 < n) :
  w.cell? ⟨g, (n - 1) * 2 + 1, none⟩ = some (.int .i64 (lastTo l)) := by
 rw [h.cellAt _ (by omega)]
 obtain ⟨l', p, rfl⟩ : ∃ l' p, l = l' ++ [p] := ⟨l.dropLast, l.getLast (by intro e; rw [e] at hl; simp at hl; omega), (List.dropLast_concat_getLast _).symm⟩
 have hlen : (spanCells l').length = l'.length * 2 := by
  clear h hl
  induction l' with
  | nil => rfl
  | cons a l ih => simp [spanCells] at *; omega
 simp at hl
 rw [lastTo_snoc, spanCells_append, List.getElem?_append_right (by rw [hlen]; omega), hlen, show (n - 1) * 2 + 1 - l'.length * 2 = 1 from by omega]
 rfl
theorem greatest {w : World} {bm n : Nat} {D : DataW Value} {G : Int → Value} {L : Int → List (Int × Int)} (h : GrpAt w bm n D G L) (r : Int) (hr : (Lit.int .i64 r).wf = true) (hl : (L r).length ≤ 1000000) :
  Calls Tryz.prog 87 #[.map (some bm), .int .i64 r] w fun e w' => e = .returned (.int .i64 (lastTo (L r))) ∧ w' = w := by
 have hlk := h.look r hr
 have hrow := h.rows r
 rcases hrow.2 with ⟨e, e0⟩ | ⟨g, cap, cur, e, hb, hg, hnc, hcm, hcs, htake⟩
 ·have hnil : L r = [] := List.eq_nil_of_length_eq_zero e0
  have HE : Hid (lastTo (L r) = 0) := by rw [hnil]; rfl
  rw [e] at hlk
  clear hrow e e0 h hnil
  go_enter Tryz.func87, Tryz.ntmps87
  go_wp2_with fail
  go_ret
  exact ⟨ret_int HE.out.symm, rfl⟩
 ·rw [e] at hlk hrow
  unfold maxLen at hcm
  by_cases h0 : (L r).length = 0
  ·have hnil : L r = [] := List.eq_nil_of_length_eq_zero h0
   have HE : Hid (lastTo (L r) = 0) := by rw [hnil]; rfl
   rw [h0] at hlk
   clear hrow e h hnil hcs htake hg hb hnc hcm
   go_enter Tryz.func87, Tryz.ntmps87
   go_wp2_with fail
   go_ret
   exact ⟨ret_int HE.out.symm, rfl⟩
  ·have hc := last_cell hrow rfl (by omega)
   generalize hlen : (L r).length = m at *
   have HL := hid hlen
   have e1 : ((m : Int) - 1).toNat = m - 1 := by omega
   have e2 : (1 : Int) ≤ (m : Int) := by omega
   have e3 : ((m : Int) == 0) = false := by simp; omega
   clear hrow e h hcs htake hg hb hlen h0
   go_enter Tryz.func87, Tryz.ntmps87
   go_wp2_with fail
   go_ret
   exact ⟨rfl, rfl⟩
end Go.Proofs.YtcbcabhjododoaaGreat
