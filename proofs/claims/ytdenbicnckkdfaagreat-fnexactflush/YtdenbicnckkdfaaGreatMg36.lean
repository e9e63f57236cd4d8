import Derived.Test.YtdenbicnckkdfaaGreatMg31
import Derived.Test.YtdenbicnckkdfaaGreatMg35
import Derived.Test.YtdenbicnckkdfaaGreatMg32
import Derived.Test.YtdenbicnckkdfaaGreatMhSpb
namespace Go.Proofs.YtdenbicnckkdfaaGreat
open Go.ChangeShapes Go.WideShapes Go.ChangeAt Go.RowKit
set_option linter.unusedVariables false
set_option linter.unusedSimpArgs false

set_option maxRecDepth 100000 in
set_option maxHeartbeats 800000 in
theorem appendTextG (B : Nat) (bv : Value) (zs0 : List Int) (s : ByteArray) (w : World) (hs : s.size ≤ 1048576) (hB : B ≤ w.heap.size) (hl : zs0.length ≤ 1000000000) (ho : Own w B bv zs0) :
    Calls Tryz.prog 77 #[bv, .string s] w fun e w' => ∃ v, e = .returned v ∧ Own w' B v (zs0 ++ textInts s) ∧ Gr w w' bv v ∧ w.heap.size < w'.heap.size := by
  have HL := uvF_len 9 s.size
  go_enter Tryz.func77, Tryz.ntmps77
  go_wp2_with fail
  refine (appendUvG B s.size bv zs0 w (by omega) hB (by omega) ho).mono ?_
  rintro e w1 ⟨v1, rfl, o1, b1, z1⟩
  obtain ⟨v2, w2, hr, o2, g2⟩ := strApp B v1 _ s w1 o1 (by omega) (by rw [List.length_append]; omega) hs
  have R : Own w2 B v2 (zs0 ++ textInts s) := by unfold textInts; rw [← List.append_assoc]; exact o2
  have HO := hid R
  have HG := hid (b1.trans g2)
  have z2 := g2.g.size
  have HZ : Hid (w.heap.size < w2.heap.size) := hid (by omega)
  clear o1 o2 b1 g2 R z1 z2 ho
  go_wp2_with (at_builtin; refine wpList_app2 rfl _ _ _ _ rfl hr (by rfl) (by rfl) rfl ?_; clear hr)
  go_ret
  exact ⟨v2, rfl, HO.out, HG.out, HZ.out⟩

theorem dot_at {w : World} {B g m cap : Nat} {ts : List Dt} (h : w.ownsRow B 67 2 (.slice (some ⟨g, 0, none⟩) m cap) m (Ds.kRow ts)) (hl : ts.length = m) : ∀ i, i < m → ∃ d, ts[i]? = some d ∧ w.cell? ⟨g, i * 2, none⟩ = some (.int .i64 d.1) ∧ w.cell? ⟨g, i * 2 + 1, none⟩ = some (.int .i64 d.2) := by
  rcases h.2 with ⟨h0, _⟩ | ⟨g', cap', cur, hv, hbase, hb, h1, h2, h3, h4⟩
  · cases h0
  · cases hv
    intro i hi
    have hi' : i < ts.length := by omega
    have e0 : ts.toArray[i]! = ts[i] := by rw [getElem!_pos _ _ (by simpa using hi')]; simp
    refine ⟨ts[i], by simp [hi'], ?_, ?_⟩
    · have e1 : (cur.toList.take (m * 2))[i * 2]? = (Ds.kRow ts)[i * 2]? := by rw [h4]
      rw [List.getElem?_take_of_lt (by omega), Ds.kRow_get ts (i * 2) (by omega)] at e1
      rw [show i * 2 / 2 = i by omega, show i * 2 % 2 = 0 by omega, e0] at e1
      simp [World.cell?, hb, ← Array.getElem?_toList, e1, Ds.kCells]
    · have e1 : (cur.toList.take (m * 2))[i * 2 + 1]? = (Ds.kRow ts)[i * 2 + 1]? := by rw [h4]
      rw [List.getElem?_take_of_lt (by omega), Ds.kRow_get ts (i * 2 + 1) (by omega)] at e1
      rw [show (i * 2 + 1) / 2 = i by omega, show (i * 2 + 1) % 2 = 1 by omega, e0] at e1
      simp [World.cell?, hb, ← Array.getElem?_toList, e1, Ds.kCells]
end Go.Proofs.YtdenbicnckkdfaaGreat

namespace Go.Proofs.YtdenbicnckkdfaaGreat
open Go.ChangeShapes Go.WideShapes Go.ChangeAt Go.RowKit
set_option linter.unusedVariables false
set_option linter.unusedSimpArgs false

theorem dseg {w : World} {B : Nat} {v : Value} {ts : List Dt} (h : w.ownsRow B 67 2 v ts.length (Ds.kRow ts)) : ∃ a cap, v = .slice a ts.length cap ∧ ts.length ≤ cap ∧ cap ≤ 9223372036854775807 ∧ (0 < ts.length → ∃ g, a = some ⟨g, 0, none⟩ ∧ B ≤ g ∧ g < w.heap.size ∧ ∀ i, i < ts.length → ∃ d, ts[i]? = some d ∧ w.cell? ⟨g, i * 2, none⟩ = some (.int .i64 d.1) ∧ w.cell? ⟨g, i * 2 + 1, none⟩ = some (.int .i64 d.2)) := by
  rcases h.2 with ⟨rfl, h0⟩ | ⟨g, cap, cur, rfl, hbase, hb, h1, h2, h3, h4⟩
  · exact ⟨none, 0, by rw [h0], by omega, by omega, fun hh => by omega⟩
  · exact ⟨_, cap, rfl, h1, by unfold maxLen at h2; omega, fun _ => ⟨g, rfl, hbase, (Array.getElem?_eq_some_iff.1 hb).1, dot_at h rfl⟩⟩
set_option maxRecDepth 100000 in
set_option maxHeartbeats 2000000 in
theorem appendMarksC {R F T : Nat → Int} {n : Nat} (l : List Lf) (p : List ByteArray) (y : Ky) (w0 : World) (Bt c : Nat) (N : List Ky → Option (Nat × Nat)) (hT : Tre w0 Bt N (Mk l l.length) c) (hc : c ≤ 1048576) (hlv : LvOk R F T n l l.length) (hbd : LvB l) (hy : y.2 = 1 ∨ y.2 = 2) (bv : Value) (zs0 : List Int) (w : World) (hb : Below w0.heap.size w0 w) (ho : Own w w0.heap.size bv zs0) (hl : zs0.length ≤ 100000000) :
    Calls Tryz.prog 78 #[.agg #[.map (mF (N (wayOf p 3 ++ [y]))), .map (mS (N (wayOf p 3 ++ [y])))], bv, .int .i64 y.2] w fun e w' => ∃ v, e = .returned v ∧ Own w' w0.heap.size v (zs0 ++ mB (dsK l p y l.length) y.2) ∧ Gr w w' bv v := by
  have hy3 : y.2 ≠ 3 := by omega
  obtain ⟨ls, hls⟩ : ∃ ls, dsK l p y l.length = ls := ⟨_, rfl⟩
  obtain ⟨Y, hY⟩ : ∃ Y, y.2 = Y := ⟨_, rfl⟩
  rw [hls, hY]
  rw [hY] at hy
  clear hY
  obtain ⟨W, hW⟩ : ∃ W, w.alloc (.cells #[.map (mF (N (wayOf p 3 ++ [y]))), .map (mS (N (wayOf p 3 ++ [y])))] 82) = W := ⟨_, rfl⟩
  have b0 : Below w.heap.size w W := by rw [← hW]; exact (Below.refl _ _).alloc (Nat.le_refl _) _
  have X0 : Bx2 W w.heap.size (.map (mF (N (wayOf p 3 ++ [y])))) (.map (mS (N (wayOf p 3 ++ [y])))) := by rw [← hW]; exact Bx2.made _ _ _ _
  have zW : W.heap.size = w.heap.size + 1 := by rw [← hW]; simp
  have hbW : Below w0.heap.size w0 W := hb.trans (b0.mono hb.size)
  have HSD := hid (Ds.sortedDotsC Bt c N (Mk l l.length) (wayOf p 3 ++ [y]) W (hT.below hbW) hc)
  obtain ⟨m0, hu0⟩ : ∃ u, mF (N (wayOf p 3 ++ [y])) = u := ⟨_, rfl⟩
  obtain ⟨m1, hu1⟩ : ∃ u, mS (N (wayOf p 3 ++ [y])) = u := ⟨_, rfl⟩
  rw [hu0, hu1] at X0 HSD hW
  rw [hu0, hu1]
  have k0 := X0.c0
  have k1 := X0.c1
  have HX := hid X0
  have HB0 := hid b0
  have HBW := hid hbW
  have HO := hid (Own.kept ho b0 (fun k hk => (World.ownsRow.lt ho k hk).2))
  have HT := hid hT
  have HU1 := hid hu1
  have HOlt : Hid (∀ g, bv.ownBlock = some g → w0.heap.size ≤ g ∧ g < w.heap.size) := hid (fun g hg => World.ownsRow.lt ho g hg)
  clear X0 b0 hbW ho hT hu0 hu1
  go_enter Tryz.func78, Tryz.ntmps78
  go_wp2_with fail
  try rw [hW]
  clear hW
  refine HSD.out.mono ?_
  rintro e w1 ⟨vd, ts, rfl, hts1, hts2, htl, hod, b1⟩
  have hdt := dots_tree hlv hy3 hts1 hts2
  have HLx : Hid (∀ x ∈ ls, (0 ≤ x.r ∧ x.r < 8) ∧ (0 ≤ x.q ∧ x.q ≤ 1000000000) ∧ x.v.size ≤ 200) := hid (fun x hx => by
    rw [← hls] at hx
    obtain ⟨j, hj, _, rfl⟩ := dsK_mem.1 hx
    exact ⟨hbd.rep j hj, hbd.seq j hj, hbd.val j hj⟩)
  have HLK : Hid (∀ x ∈ ls, ∀ w', Below w0.heap.size w0 w' → (Instr.lookup 80 (.map m1) (.agg #[.int .i64 x.r, .int .i64 x.q]) false).run Tryz.prog w' = .ok (.agg #[.string x.v]) w') := hid (fun x hx w' hb' => by
    have hv := mark_tree hy3 hbd.dis (by rw [hls]; exact hx)
    have T' := HT.out.below hb'
    have hl := HLx.out x hx
    cases e : N (wayOf p 3 ++ [y]) with
    | none => rw [T'.none' _ e] at hv; cases hv
    | some x1 =>
      have hu : m1 = some x1.2 := by rw [← HU1.out, e]; rfl
      obtain ⟨kl, hkl⟩ := dotKey (r := x.r) (q := x.q) (wfI (by omega) (by omega)) (wfI (by omega) (by omega))
      have := (T'.marks _ x1 e).look dotKeyed Tryz.underlying80 (zeroMark w') (x := (x.r, x.q)) hkl
      rw [hv] at this
      rw [hu]; exact this)
  have hlen : ls.length ≤ 1000 := by rw [← hls]; have := dsK_len l p y l.length; have := hbd.len; omega
  rw [hls] at hdt
  have hte : ts.length = ls.length := by rw [hdt]; simp
  obtain ⟨da, dc, rfl, hdc1, hdc2, hdr⟩ := dseg hod
  have HD : Hid (0 < ls.length → ∃ g, da = some ⟨g, 0, none⟩ ∧ W.heap.size ≤ g ∧ g < w1.heap.size ∧ ∀ i, i < ls.length → ∃ x ∈ ls, ls[i]? = some x ∧ w1.cell? ⟨g, i * 2, none⟩ = some (.int .i64 x.r) ∧ w1.cell? ⟨g, i * 2 + 1, none⟩ = some (.int .i64 x.q)) := hid (fun h0 => by
    obtain ⟨g, e1, e2, e3, e4⟩ := hdr (by omega)
    refine ⟨g, e1, e2, e3, fun i hi => ?_⟩
    obtain ⟨d, f1, f2, f3⟩ := e4 i (by omega)
    rw [hdt] at f1
    simp only [List.getElem?_map, Option.map_eq_some_iff] at f1
    obtain ⟨x, f4, f5⟩ := f1
    subst f5
    exact ⟨x, List.mem_of_getElem? f4, f4, f2, f3⟩)
  rw [hte] at hdc1 ⊢
  have X1 := HX.out.below b1 HX.out.lt
  have HX1 := hid X1
  have HO1 := hid (Own.kept HO.out b1 (fun k hk => by have := (HOlt.out k hk).2; omega))
  have HB1 := hid (HBW.out.trans (b1.mono HBW.out.size))
  have HB01 := hid (keepS HB0.out b1)
  have x0 : IntKind.u64.wrap ((ls.length : Nat) : Int) = (ls.length : Int) := wrapU _ (by omega) (by omega)
  have zz1 := b1.size
  have HSz : Hid (w0.heap.size ≤ w1.heap.size ∧ w.heap.size < w1.heap.size ∧ w0.heap.size ≤ w.heap.size) := hid ⟨HB1.out.size, by omega, hb.size⟩
  clear k0 k1 hod hts1 hts2 htl hdr hdt hte b1 HSD X1 HX HO HBW zz1 hls hy3
  go_wp2_with fail
  refine (appendUvG w0.heap.size ls.length bv zs0 w1 (by omega) HSz.out.1 (by omega) HO1.out).mono ?_
  rintro e w2 ⟨v2, rfl, o2, g2, z2⟩
  have HO2 := hid o2
  have HG2 := hid g2
  have HZ2 := hid z2
  clear o2 g2 z2 x0
  go_wp2_with fail
  go_loopw [1, 19] (fun b' i wr => ∃ (k : Nat), k ≤ ls.length ∧ i = .int .i64 k ∧ Hid (Own wr w0.heap.size b' (zs0 ++ (uvF 9 ls.length ++ (ls.take k).flatMap (lfB Y)))) ∧ Hid (Gr w1 wr bv b') ∧ Hid (w1.heap.size ≤ wr.heap.size)) (fun _ i _ => ls.length - (intOf i).toNat)
  case atStart => exact ⟨0, Nat.zero_le _, rfl, hid (by simpa using HO2.out), HG2, hid (Nat.le_of_lt HZ2.out)⟩
  case round =>
    clear HO2 HG2 HZ2
    obtain ⟨k, hk, rfl, HOk, HGk, HZk⟩ := hrel
    by_cases hlt : k < ls.length
    · obtain ⟨g, rfl, hg1, hg2, hgc⟩ := HD.out (by omega)
      obtain ⟨x, hxm, hxk, hc1, hc2⟩ := hgc k hlt
      have hgne : some g ≠ bv.ownBlock := fun e => by have := (HOlt.out g e.symm).2; omega
      have hbne : some w.heap.size ≠ bv.ownBlock := fun e => by have := (HOlt.out _ e.symm).2; omega
      have c1 := HGk.out.g.cell hc1 hgne
      have c2 := HGk.out.g.cell hc2 hgne
      have n1 := HGk.out.g.cell HX1.out.c1 hbne
      have hxb := HLx.out x hxm
      have HTK : Hid ((ls.take (k + 1)).flatMap (lfB Y) = (ls.take k).flatMap (lfB Y) ++ lfB Y x) := hid (by rw [List.take_add_one, hxk]; simp)
      have HZL : Hid ((zs0 ++ (uvF 9 ls.length ++ (ls.take k).flatMap (lfB Y))).length ≤ 100000000 + 10 + 230000) := hid (by
        have h1 := (uvF_len 9 ls.length).1
        have h2 := flat_len (lfB Y) (fun _ => 1) 230 (ls.take k) (fun z hz => by
          have a1 := (uvF_len 9 z.r.toNat).1
          have a2 := (uvF_len 9 z.q.toNat).1
          have a3 := textInts_len z.v
          have a4 := (HLx.out z (List.mem_of_mem_take hz)).2.2
          unfold lfB
          simp only [List.length_append]
          split
          · omega
          · simp; omega)
        have h3 : ∀ ls : List Lf, (ls.map fun _ => 1).sum = ls.length := fun ls => by
          induction ls with
          | nil => rfl
          | cons a r ih => simp only [List.map_cons, List.sum_cons, ih, List.length_cons]; omega
        rw [h3, List.length_take] at h2
        simp only [List.length_append]
        omega)
      have HLKx : Hid (∀ w', Below w0.heap.size w0 w' → (Instr.lookup 80 (.map m1) (.agg #[.int .i64 x.r, .int .i64 x.q]) false).run Tryz.prog w' = .ok (.agg #[.string x.v]) w') := hid (fun w' h => HLK.out x hxm w' h)
      obtain ⟨xp, xf, xr, xq, xv⟩ := x
      dsimp only at c1 c2 hxb HLKx HTK
      obtain ⟨r, rfl⟩ : ∃ r : Nat, xr = (r : Int) := ⟨xr.toNat, by omega⟩
      obtain ⟨q, rfl⟩ : ∃ q : Nat, xq = (q : Int) := ⟨xq.toNat, by omega⟩
      have HTL : Hid (lfB Y ⟨xp, xf, (r : Int), (q : Int), xv⟩ = uvF 9 r ++ (uvF 9 q ++ if Y = 1 then textInts xv else [])) := hid (by simp [lfB])
      have x3 : IntKind.u64.wrap (r : Int) = (r : Int) := wrapU _ (by omega) (by omega)
      have x4 : IntKind.u64.wrap (q : Int) = (q : Int) := wrapU _ (by omega) (by omega)
      obtain ⟨W1, hW1⟩ : ∃ W1, wr.alloc (.cells #[.int .i64 (r : Int), .int .i64 (q : Int)] 67) = W1 := ⟨_, rfl⟩
      have D1 : Bx2 W1 wr.heap.size (.int .i64 (r : Int)) (.int .i64 (q : Int)) := by rw [← hW1]; exact Bx2.made _ _ _ _
      have bW1 : Below wr.heap.size wr W1 := by rw [← hW1]; exact (Below.refl _ _).alloc (Nat.le_refl _) _
      have HGW : Hid (Gr w1 W1 bv u1) := by rw [← hW1]; exact hid (HGk.out.alloc _)
      have HOW : Hid (Own W1 w0.heap.size u1 (zs0 ++ (uvF 9 ls.length ++ (ls.take k).flatMap (lfB Y)))) := by rw [← hW1]; exact hid (World.ownsRow.alloc HOk.out _)
      have hdne : Hid (some wr.heap.size ≠ u1.ownBlock) := hid (fun e => by have := (World.ownsRow.lt HOk.out _ e.symm).2; omega)
      have q0 := D1.c0
      have q1 := D1.c1
      have HD1 := hid D1
      have HBN := hid hbne
      have HzW : Hid (w1.heap.size ≤ W1.heap.size) := hid (by have := bW1.size; have := HZk.out; omega)
      clear D1 bW1 hc1 hc2 hgc hxm hxk hbne hgne HOk HGk HZk
      go_wp2_with fail
      try rw [hW1]
      clear hW1
      refine (appendUvG w0.heap.size r u1 _ W1 (by omega) (by have := HSz.out.1; have := HzW.out; omega) (by have := HZL.out; omega) HOW.out).mono ?_
      rintro e w3 ⟨v3, rfl, o3, g3, z3⟩
      have q13 := g3.g.cell HD1.out.c1 hdne.out
      have HO3 := hid o3
      have HG3 := hid g3
      have HZ3 := hid z3
      have l3 := (uvF_len 9 r).1
      clear o3 g3 z3 q0 q1 c1 c2 n1 x3
      go_wp2_with fail
      refine (appendUvG w0.heap.size q v3 _ w3 (by omega) (by have := HSz.out.1; have := HzW.out; have := HZ3.out; omega) (by have := HZL.out; rw [List.length_append]; omega) HO3.out).mono ?_
      rintro e w5 ⟨v5, rfl, o5, g5, z5⟩
      have g35 := HG3.out.trans g5
      have q05 := g35.g.cell HD1.out.c0 hdne.out
      have q15 := g35.g.cell HD1.out.c1 hdne.out
      have g15 := HGW.out.trans g35
      have n15 := g15.g.cell HX1.out.c1 HBN.out
      have hb5 : Below w0.heap.size w0 w5 := HB1.out.trans (g15.below HSz.out.1 (fun k hk => (HOlt.out k hk).1))
      have hlk := HLKx.out w5 hb5
      have hfd : (Instr.field 119 (.agg #[.string xv]) 0).run Tryz.prog w5 = .ok (.string xv) w5 := by kernel_rfl
      have HO5 := hid o5
      have HG5 := hid g15
      have HZ5 : Hid (w1.heap.size ≤ w5.heap.size) := hid (by have := HzW.out; have := HZ3.out; omega)
      have l5 := (uvF_len 9 q).1
      clear o5 g5 z5 q13 g35 g15 x4 hb5 HLKx HG3 HO3 HD1
      rcases hy with rfl | rfl
      · go_wp2_with fail
        refine (appendTextG w0.heap.size v5 _ xv w5 (by omega) (by have := HSz.out.1; have := HZ5.out; omega) (by have := HZL.out; simp only [List.length_append] at *; omega) HO5.out).mono ?_
        rintro e w6 ⟨v6, rfl, o6, g6, z6⟩
        have HO6 : Hid (Own w6 w0.heap.size v6 (zs0 ++ (uvF 9 ls.length ++ (ls.take (k + 1)).flatMap (lfB 1)))) := hid (by rw [HTK.out, HTL.out]; simpa using o6)
        have HG6 := hid (HG5.out.trans g6)
        have HZ6 : Hid (w1.heap.size ≤ w6.heap.size) := hid (by have := HZ5.out; omega)
        clear o6 g6 z6 hlk hfd q05 q15 n15
        go_wp2_with fail
        go_roundw
        case rel => exact ⟨k + 1, hlt, by go_num, HO6, HG6, HZ6⟩
        case measure => simp [intOf]; omega
      · have HO6 : Hid (Own w5 w0.heap.size v5 (zs0 ++ (uvF 9 ls.length ++ (ls.take (k + 1)).flatMap (lfB 2)))) := hid (by rw [HTK.out, HTL.out]; simpa using HO5.out)
        clear hlk hfd q05 q15 n15
        go_wp2_with fail
        go_roundw
        case rel => exact ⟨k + 1, hlt, by go_num, HO6, HG5, HZ5⟩
        case measure => simp [intOf]; omega
    · obtain rfl : k = ls.length := by omega
      have HF : Hid (zs0 ++ (uvF 9 ls.length ++ (ls.take ls.length).flatMap (lfB Y)) = zs0 ++ mB ls Y) := hid (by rw [List.take_length]; rfl)
      go_wp2_with fail
      go_ret
      refine ⟨_, rfl, by rw [← HF.out]; exact HOk.out, ?_⟩
      exact (Gr.of_below (b := bv) HB01.out).trans HGk.out
end Go.Proofs.YtdenbicnckkdfaaGreat
