import Derived.Test.YtbimcammjohaoadDoorGcM3
import Derived.Test.YtbimcammjohaoadDoorUnm4
namespace Go.Proofs.YtbimcammjohaoadDoor
open Go.ChangeShapes Go.WideShapes Go.ChangeAt Go.RowKit Go.Maps
set_option linter.unusedVariables false
set_option linter.unusedSimpArgs false

set_option maxRecDepth 100000 in
set_option maxHeartbeats 1000000 in
theorem l2GetC (a : Option Addr) (n c x : Nat) (most : Int) (f : Nat → Int) (w : World) (hn : n ≤ 1048576) (hf : Byt f) (hs : Seg w a n f) (hx : x ≤ n) (hm0 : 0 ≤ most) (hm1 : most ≤ 1000000000000) :
    Calls Tryd.prog 39 #[.slice a n c, .int .i64 (x : Int), .int .i64 most] w fun e w' => Below w.heap.size w w' ∧
      ((∃ V x' : Nat, rd f n x most = some (V, x') ∧ (V : Int) ≤ most ∧ x' ≤ n ∧ e = .returned (.tuple #[.int .i64 (V : Int), .int .i64 (x' : Int), .bool true])) ∨
       (rd f n x most = none ∧ e = .returned (.tuple #[.int .i64 0, .int .i64 (x : Int), .bool false]))) := by
  have hcn := cN_spec f n x
  have HX := hid (specX a n c (cN f n x) (x : Int) f w hn hf hs (by simpa using hcn))
  have hb := gX_bounds (f := f) (n := n) (m := cN f n x) (x := (x : Int)) (by simpa using hcn) hf hn (by omega) (by omega)
  have HR : Hid (rd f n x most = if (gX f n (cN f n x) (x : Int)).2.2 = 0 ∧ ((gX f n (cN f n x) (x : Int)).1 : Int) ≤ most then some ((gX f n (cN f n x) (x : Int)).1, (gX f n (cN f n x) (x : Int)).2.1.toNat) else none) := hid rfl
  obtain ⟨G, hG⟩ : ∃ G, gX f n (cN f n x) (x : Int) = G := ⟨_, rfl⟩
  rw [hG] at HX hb HR
  obtain ⟨V, A, C⟩ := G
  dsimp only at HX hb HR
  obtain ⟨hV, hC, hA0, _⟩ := hb
  clear hs hcn hG
  have e1 : IntKind.u64.wrap most = most := by rw [IntKind.wrap_u64]; omega
  by_cases h0 : C = 0
  · subst h0
    obtain ⟨hA1, hA2⟩ := hA0 rfl
    obtain ⟨x', rfl⟩ : ∃ x' : Nat, A = (x' : Int) := ⟨A.toNat, by omega⟩
    by_cases h1 : (V : Int) ≤ most
    · have HR2 : Hid (rd f n x most = some (V, x')) := by rw [HR.out, if_pos ⟨rfl, h1⟩]; exact hid (by simp)
      have d1 : decide (most < (V : Int)) = false := by simpa using h1
      have e2 : IntKind.i64.wrap (V : Int) = (V : Int) := by rw [IntKind.wrap_i64]; omega
      clear hA0 HR
      go_enter Tryd.func39, Tryd.ntmps39
      go_wp2_with fail
      refine HX.out.mono ?_
      rintro e w1 ⟨rfl, b1⟩
      have HB := hid b1
      clear b1 HX
      go_wp2_with fail
      go_ret3
      exact ⟨HB.out, .inl ⟨V, x', HR2.out, h1, by omega, by first | rfl | rw [e2]⟩⟩
    · have HR2 : Hid (rd f n x most = none) := by rw [HR.out, if_neg (fun h => h1 h.2)]; exact hid rfl
      have d1 : decide (most < (V : Int)) = true := by simp; omega
      clear hA0 HR
      go_enter Tryd.func39, Tryd.ntmps39
      go_wp2_with fail
      refine HX.out.mono ?_
      rintro e w1 ⟨rfl, b1⟩
      have HB := hid b1
      clear b1 HX
      go_wp2_with fail
      go_ret3
      exact ⟨HB.out, .inr ⟨HR2.out, rfl⟩⟩
  · have HR2 : Hid (rd f n x most = none) := by rw [HR.out, if_neg (fun h => h0 h.1)]; exact hid rfl
    have d0 : ((C : Int) == 0) = false := by simp; omega
    clear hA0 HR
    go_enter Tryd.func39, Tryd.ntmps39
    go_wp2_with fail
    refine HX.out.mono ?_
    rintro e w1 ⟨rfl, b1⟩
    have HB := hid b1
    clear b1 HX
    go_wp2_with fail
    go_ret3
    exact ⟨HB.out, .inr ⟨HR2.out, rfl⟩⟩

structure St (w wr : World) (v : Value) (l : List Rn) : Prop where
  c : wr.cell? ⟨w.heap.size + 2, 0, none⟩ = some v
  r : wr.cell? ⟨w.heap.size, 0, none⟩ = some (.slice none 0 0)
  fc : wr.frozen? ⟨w.heap.size + 2, 0, none⟩ = false
  fr : wr.frozen? ⟨w.heap.size, 0, none⟩ = false
  o : FR wr (w.heap.size + 1) v l
  n : v.ownBlock ≠ some (w.heap.size + 2)
  b : Below w.heap.size w wr
  z : w.heap.size + 3 ≤ wr.heap.size
theorem St.below {w wr w1 : World} {v : Value} {l : List Rn} (h : St w wr v l) (hb : Below wr.heap.size wr w1) : St w w1 v l := by
  have hz := h.z
  exact ⟨(hb.cell (p := ⟨w.heap.size + 2, 0, none⟩) (show w.heap.size + 2 < wr.heap.size by omega)).trans h.c, (hb.cell (p := ⟨w.heap.size, 0, none⟩) (show w.heap.size < wr.heap.size by omega)).trans h.r,
    ((bcell hb).2 (w.heap.size + 2) 0 (by omega)).trans h.fc, ((bcell hb).2 w.heap.size 0 (by omega)).trans h.fr, row_below h.o hb, h.n, h.b.trans (hb.mono (by omega)), Nat.le_trans hz hb.size⟩
theorem St.mid {w W w7 : World} {v : Value} {l : List Rn} {ob : Obj} (h : St w W v l) (hg : (W.alloc ob).grownBy w7 v.ownBlock) : w7.cell? ⟨w.heap.size + 2, 0, none⟩ = some v ∧ w7.frozen? ⟨w.heap.size + 2, 0, none⟩ = false := by
  have hb : Below W.heap.size W (W.alloc ob) := (Below.refl _ _).alloc (Nat.le_refl _) _
  have h1 := h.below hb
  have hbk := hg.block (w.heap.size + 2) (by have := h1.z; omega) (fun e => h.n e.symm)
  exact ⟨(World.cell?_of_block hbk).trans h1.c, (World.frozen?_of_block hbk).trans h1.fc⟩
theorem St.app {w W w7 : World} {v v7 : Value} {l : List Rn} {ob : Obj} {x y z : Int} (h : St w W v l) (hown : w7.ownsRow (w.heap.size + 1) 78 3 v7 (l.length + 1) (fCells l ++ [.int .i64 x, .int .i64 y, .int .i64 z]))
    (hg : (W.alloc ob).grownBy w7 v.ownBlock) (hloc : v7.ownBlock = v.ownBlock ∨ v7.ownBlock = some (W.alloc ob).heap.size) : St w (w7.setCell ⟨w.heap.size + 2, 0, none⟩ v7) v7 (l ++ [(x, y, z)]) := by
  have hb : Below W.heap.size W (W.alloc ob) := (Below.refl _ _).alloc (Nat.le_refl _) _
  have h1 := h.below hb
  have hz := h.z
  have z1 := hg.size
  have z2 := h1.z
  have hn : v7.ownBlock ≠ some (w.heap.size + 2) := by
    rcases hloc with e | e
    · rw [e]; exact h.n
    · rw [e]; intro e2; injection e2 with e2; simp at e2; omega
  have hr : some w.heap.size ≠ v.ownBlock := fun e => by have := (World.ownsRow.lt h.o _ e.symm).1; omega
  have hbk := hg.block w.heap.size (by omega) hr
  obtain ⟨q1, q2⟩ := h.mid hg
  refine ⟨World.cell?_setCell_same _ _ _ q1, ?_, ?_, ?_, ?_, hn, ?_, ?_⟩
  · rw [World.cell?_setCell_far _ _ _ _ (by simp)]; exact (World.cell?_of_block hbk).trans h1.r
  · rw [World.frozen?_setCell]; exact q2
  · rw [World.frozen?_setCell]; exact (World.frozen?_of_block hbk).trans h1.fr
  · unfold FR
    rw [fCells_snoc, List.length_append]
    refine World.ownsRow.kept hown (grownSet w7 ⟨w.heap.size + 2, 0, none⟩ v7) ?_
    cases e : v7.ownBlock with
    | none => exact .inl rfl
    | some g => exact .inr (fun e2 => hn (e.trans e2))
  · refine Below.setCell (p := ⟨w.heap.size + 2, 0, none⟩) (h1.b.grown hg (by omega) (fun k hk => by have := (World.ownsRow.lt h.o k hk).1; omega)) (by show w.heap.size ≤ w.heap.size + 2; omega) v7
  · simp [World.setCell]; omega
theorem ldSpans_succ (f : Nat → Int) (n k : Nat) (rep last : Int) (x : Nat) : ldSpans f n rep (k + 1) last x = (rd f n x 1000000000).bind fun a => (rd f n a.2 1000000000).bind fun b => (ldSpans f n rep k (last + 2 + (a.1 : Int) + (b.1 : Int)) b.2).bind fun c => some ((rep, last + 2 + (a.1 : Int), last + 2 + (a.1 : Int) + (b.1 : Int)) :: c.1, c.2) := by rw [ldSpans]
theorem ldReps_succ (f : Nat → Int) (n k : Nat) (x : Nat) : ldReps f n (k + 1) x = (rd f n x 8).bind fun a => (rd f n a.2 1000).bind fun b => (ldSpans f n (a.1 : Int) b.1 (-1) b.2).bind fun c => (ldReps f n k c.2).bind fun d => some (c.1 ++ d.1, d.2) := by rw [ldReps]

set_option maxRecDepth 100000 in
set_option maxHeartbeats 2000000 in
theorem l2ReadC (a : Option Addr) (n c x : Nat) (f : Nat → Int) (w : World) (hn : n ≤ 1048576) (hf : Byt f) (hs : Seg w a n f) (hx : x ≤ n) :
    Calls Tryd.prog 23 #[.slice a n c, .int .i64 (x : Int)] w fun e w' => Below w.heap.size w w' ∧
      ((∃ (l : List Rn) (x' : Nat) (v : Value), ldCtx f n x = some (l, x') ∧ x' ≤ n ∧ e = .returned (.tuple #[.agg #[v], .int .i64 (x' : Int), .bool true]) ∧ FR w' w.heap.size v l ∧ l.length ≤ 8000) ∨
       (ldCtx f n x = none ∧ ∃ (ya : Option Addr) (nv cv : Nat) (y : Int), e = .returned (.tuple #[.agg #[.slice ya nv cv], .int .i64 y, .bool false]))) := by
  obtain ⟨i0, hi, hz0, hz1, hz2⟩ := info_parts Tryd.infoRun
  obtain ⟨W, hW⟩ : ∃ W, ((w.alloc (.cells #[.slice none 0 0] 25)).alloc (.cells #[] 78)).alloc (.cells #[.slice (some ⟨w.heap.size + 1, 0, none⟩) 0 0] 25) = W := ⟨_, rfl⟩
  have bW : Below w.heap.size w W := by rw [← hW]; exact (below2 _ _ _).alloc (by simp; omega) _
  have HZ : Hid (W.heap.size = w.heap.size + 3) := by rw [← hW]; exact hid (by simp)
  have HST0 : Hid (St w W (.slice (some ⟨w.heap.size + 1, 0, none⟩) 0 0) []) := by
    have s1 : W.cell? ⟨w.heap.size + 2, 0, none⟩ = some (.slice (some ⟨w.heap.size + 1, 0, none⟩) 0 0) := by rw [← hW, World.cell?_alloc_at _ _ _ _ (by simp)]; rfl
    have s2 : W.cell? ⟨w.heap.size, 0, none⟩ = some (.slice none 0 0) := by rw [← hW, World.cell?_alloc_past _ _ _ (by simp; omega), World.cell?_alloc_past _ _ _ (by simp), World.cell?_alloc_at _ _ _ _ rfl]; rfl
    have s3 : W.frozen? ⟨w.heap.size + 2, 0, none⟩ = false := by rw [← hW, World.frozen?_alloc_at _ _ _ _ (by simp)]
    have s4 : W.frozen? ⟨w.heap.size, 0, none⟩ = false := by rw [← hW, World.frozen?_alloc_past _ _ _ (by simp; omega), World.frozen?_alloc_past _ _ _ (by simp), World.frozen?_alloc_at _ _ _ _ rfl]
    refine hid ⟨s1, s2, s3, s4, ?_, by simp [Value.ownBlock], bW, by have := HZ.out; omega⟩
    have q := World.ownsRow_lit (base := w.heap.size + 1) (e := 78) (size := 3) (w.alloc (.cells #[.slice none 0 0] 25)) #[] 0 (by simp) (by unfold maxLen; omega) rfl
    have q' : ((w.alloc (.cells #[.slice none 0 0] 25)).alloc (.cells #[] 78)).ownsRow (w.heap.size + 1) 78 3 (.slice (some ⟨w.heap.size + 1, 0, none⟩) 0 0) 0 [] := by simpa using q
    rw [← hW]
    exact World.ownsRow.alloc q' _
  have HU := hid (l2GetC a n c x 8 f W hn hf (hs.below bW) hx (by omega) (by omega))
  have HS := hid hs
  clear hs bW
  go_enter Tryd.func23, Tryd.ntmps23
  go_wp2_with fail
  try rw [hW]
  clear hW
  refine HU.out.mono ?_
  rintro e w1 ⟨b1, ⟨V, x1, hr, hV, hx1, rfl⟩ | ⟨hr, rfl⟩⟩
  · have HR : Hid (ldCtx f n x = ldReps f n V x1) := by unfold ldCtx; rw [hr]; exact hid rfl
    have HST1 := hid (HST0.out.below b1)
    clear b1 hr HU HST0 HZ
    go_wp2_with fail
    go_loopw [9, 10, 11] (fun av okv iv wr => ∃ (k : Nat) (v : Value) (l : List Rn), k ≤ V ∧ iv = .int .i64 (k : Int) ∧ Hid (St w wr v l) ∧ l.length ≤ 1000 * k ∧
      ((okv = .bool true ∧ ∃ y : Nat, av = .int .i64 (y : Int) ∧ y ≤ n ∧ Hid (ldReps f n V x1 = (ldReps f n (V - k) y).bind fun d => some (l ++ d.1, d.2))) ∨ (okv = .bool false ∧ (∃ y : Int, av = .int .i64 y) ∧ Hid (ldReps f n V x1 = none)))) (fun _ _ iv _ => V - (intOf iv).toNat)
    case atStart => exact ⟨0, _, [], Nat.zero_le _, rfl, HST1, by simp, .inl ⟨rfl, x1, rfl, hx1, hid (by cases h : ldReps f n (V - 0) x1 <;> simp_all)⟩⟩
    case round =>
      obtain ⟨k, v, l, hk, rfl, hst, hll, ⟨rfl, y, rfl, hyn, hrd⟩ | ⟨rfl, ⟨y, rfl⟩, hrd⟩⟩ := hrel
      · by_cases hlt : k < V
        · obtain ⟨m, hm⟩ : ∃ m, V - k = m + 1 := ⟨V - k - 1, by omega⟩
          have HM := hid hm
          have HU1 := hid (l2GetC a n c y 8 f wr hn hf (HS.out.below hst.out.b) hyn (by omega) (by omega))
          clear hm
          go_wp2_with fail
          refine HU1.out.mono ?_
          rintro e w2 ⟨b2, ⟨R, x2, hr2, hR, hx2, rfl⟩ | ⟨hr2, rfl⟩⟩
          · have HR2 := hid hr2
            have HST2 := hid (hst.out.below b2)
            have HU2 := hid (l2GetC a n c x2 1000 f w2 hn hf (HS.out.below HST2.out.b) hx2 (by omega) (by omega))
            clear b2 hr2 HU1
            go_wp2_with fail
            refine HU2.out.mono ?_
            rintro e w3 ⟨b3, ⟨C, x3, hr3, hC, hx3, rfl⟩ | ⟨hr3, rfl⟩⟩
            · have HR3 := hid hr3
              have HST3 := hid (HST2.out.below b3)
              clear b3 hr3 HU2 HST2
              go_wp2_with fail
              go_loopw [9, 10, 14, 15] (fun av okv lv iv wq => ∃ (t : Nat) (v : Value) (l' : List Rn) (last : Int), t ≤ C ∧ iv = .int .i64 (t : Int) ∧ lv = .int .i64 last ∧ -1 ≤ last ∧ last ≤ 2000000002 * (t : Int) ∧ Hid (St w wq v l') ∧ l'.length ≤ 1000 * k + t ∧
                ((okv = .bool true ∧ ∃ (y : Nat) (lt : List Rn), av = .int .i64 (y : Int) ∧ y ≤ n ∧ Hid (l' = l ++ lt) ∧ Hid (ldSpans f n (R : Int) C (-1) x3 = (ldSpans f n (R : Int) (C - t) last y).bind fun d => some (lt ++ d.1, d.2))) ∨ (okv = .bool false ∧ (∃ y : Int, av = .int .i64 y) ∧ Hid (ldSpans f n (R : Int) C (-1) x3 = none)))) (fun _ _ _ iv _ => C - (intOf iv).toNat)
              case atStart => exact ⟨0, v, l, -1, Nat.zero_le _, rfl, rfl, by omega, by omega, HST3, by omega, .inl ⟨rfl, x3, [], rfl, hx3, hid (by simp), hid (by cases h : ldSpans f n (R : Int) (C - 0) (-1) x3 <;> simp_all)⟩⟩
              case round =>
                clear hst HST3
                obtain ⟨t, v, l', last, ht, rfl, rfl, hla0, hla1, hst, hll', ⟨rfl, y', lt, rfl, hyn', hle, hrs⟩ | ⟨rfl, ⟨y', rfl⟩, hrs⟩⟩ := hrel
                · by_cases htl : t < C
                  · obtain ⟨q, hq⟩ : ∃ q, C - t = q + 1 := ⟨C - t - 1, by omega⟩
                    have HQ := hid hq
                    have HU3 := hid (l2GetC a n c y' 1000000000 f wr hn hf (HS.out.below hst.out.b) hyn' (by omega) (by omega))
                    clear hq
                    go_wp2_with fail
                    refine HU3.out.mono ?_
                    rintro e w4 ⟨b4, ⟨G, x4, hr4, hG, hx4, rfl⟩ | ⟨hr4, rfl⟩⟩
                    · have HST4 := hid (hst.out.below b4)
                      have HU4 := hid (l2GetC a n c x4 1000000000 f w4 hn hf (HS.out.below HST4.out.b) hx4 (by omega) (by omega))
                      have HR4 := hid hr4
                      clear b4 hr4 HU3 hst
                      go_wp2_with fail
                      refine HU4.out.mono ?_
                      rintro e w5 ⟨b5, ⟨Z, x5, hr5, hZ, hx5, rfl⟩ | ⟨hr5, rfl⟩⟩
                      · have HRS : Hid (ldSpans f n (R : Int) C (-1) x3 = (ldSpans f n (R : Int) (C - (t + 1)) (last + 2 + (G : Int) + (Z : Int)) x5).bind fun d => some (lt ++ [((R : Int), last + 2 + (G : Int), last + 2 + (G : Int) + (Z : Int))] ++ d.1, d.2)) := by
                          refine hid ?_
                          rw [hrs.out, HQ.out, ldSpans_succ, HR4.out, Option.bind_some]
                          dsimp only
                          rw [hr5, show C - (t + 1) = q from by have := HQ.out; omega]
                          simp only [Option.bind_some]
                          cases ldSpans f n (R : Int) q (last + 2 + (G : Int) + (Z : Int)) x5 with
                          | none => rfl
                          | some d => simp
                        have e1 : IntKind.i64.wrap (last + 2) = last + 2 := wrapIn _ (by omega) (by omega)
                        have e2 : IntKind.i64.wrap (last + 2 + (G : Int)) = last + 2 + (G : Int) := wrapIn _ (by omega) (by omega)
                        have e3 : IntKind.i64.wrap (last + 2 + (G : Int) + (Z : Int)) = last + 2 + (G : Int) + (Z : Int) := wrapIn _ (by omega) (by omega)
                        have hst5 := HST4.out.below b5
                        have HST := hid hst5
                        have c5 := hst5.c
                        have fc5 := hst5.fc
                        have z5 := hst5.z
                        clear b5 hr5 HU4 HST4 hrs hrd hst5
                        go_wp2_with (at_builtin; refine wpList_app_at rfl _ _ 23 rfl (w.heap.size + 1) 78 i0 _ 3 24 Tryd.underlying23 hi hz0 hz1 hz2 rfl (by decide) _ _ _ rfl (World.ownsRow.alloc HST.out.o _) ⟨w5.heap.size, 0, none⟩ 1 1 [.int .i64 (R : Int), .int .i64 (last + 2 + (G : Int)), .int .i64 (last + 2 + (G : Int) + (Z : Int))] rfl rfl ?c1 ?c2 ?c3 ?c4 ?c5 ?_)
                        case c1 => exact cell_three_new _ _ _ _ _
                        case c2 => intro u hu; simp at hu; rcases hu with rfl | rfl | rfl <;> rfl
                        case c3 => unfold maxLen; omega
                        case c4 => omega
                        case c5 => simp; omega
                        intro v7 w7 hown7 hgr7 hloc7
                        obtain ⟨y7, m7, c7, rfl⟩ := row_form hown7
                        obtain ⟨q1, q2⟩ := HST.out.mid hgr7
                        have HST7 := hid (HST.out.app hown7 hgr7 (by simpa using hloc7))
                        have h17 : (l' ++ [((R : Int), last + 2 + (G : Int), last + 2 + (G : Int) + (Z : Int))]).length = l'.length + 1 := by simp
                        have HW := hid h17
                        clear hown7 hgr7 hloc7 c5 fc5 h17
                        go_wp2_with fail
                        go_roundw
                        case rel => exact ⟨t + 1, _, _, _, htl, by go_num, rfl, by omega, by omega, HST7, by rw [HW.out]; omega, .inl ⟨rfl, x5, lt ++ [((R : Int), last + 2 + (G : Int), last + 2 + (G : Int) + (Z : Int))], rfl, hx5, hid (by rw [hle.out, List.append_assoc]), HRS⟩⟩
                        case measure => simp [intOf]; omega
                      · have HRS : Hid (ldSpans f n (R : Int) C (-1) x3 = none) := by
                          refine hid ?_
                          rw [hrs.out, HQ.out, ldSpans_succ, HR4.out, Option.bind_some]
                          dsimp only
                          rw [hr5]; rfl
                        have e1 : IntKind.i64.wrap (last + 2) = last + 2 := wrapIn _ (by omega) (by omega)
                        have e2 : IntKind.i64.wrap (last + 2 + (G : Int)) = last + 2 + (G : Int) := wrapIn _ (by omega) (by omega)
                        have hst5 := HST4.out.below b5
                        have HST := hid hst5
                        have c5 := hst5.c
                        have fc5 := hst5.fc
                        have z5 := hst5.z
                        clear b5 hr5 HU4 HST4 hrs hrd hst5
                        go_wp2_with (at_builtin; refine wpList_app_at rfl _ _ 23 rfl (w.heap.size + 1) 78 i0 _ 3 24 Tryd.underlying23 hi hz0 hz1 hz2 rfl (by decide) _ _ _ rfl (World.ownsRow.alloc HST.out.o _) ⟨w5.heap.size, 0, none⟩ 1 1 [.int .i64 (R : Int), .int .i64 (last + 2 + (G : Int)), .int .i64 (last + 2 + (G : Int))] rfl rfl ?d1 ?d2 ?d3 ?d4 ?d5 ?_)
                        case d1 => exact cell_three_new _ _ _ _ _
                        case d2 => intro u hu; simp at hu; rcases hu with rfl | rfl | rfl <;> rfl
                        case d3 => unfold maxLen; omega
                        case d4 => omega
                        case d5 => simp; omega
                        intro v7 w7 hown7 hgr7 hloc7
                        obtain ⟨y7, m7, c7, rfl⟩ := row_form hown7
                        obtain ⟨q1, q2⟩ := HST.out.mid hgr7
                        have HST7 := hid (HST.out.app hown7 hgr7 (by simpa using hloc7))
                        have h17 : (l' ++ [((R : Int), last + 2 + (G : Int), last + 2 + (G : Int))]).length = l'.length + 1 := by simp
                        have HW := hid h17
                        clear hown7 hgr7 hloc7 c5 fc5 h17
                        go_wp2_with fail
                        go_roundw
                        case rel => exact ⟨t + 1, _, _, _, htl, by go_num, rfl, by omega, by omega, HST7, by rw [HW.out]; omega, .inr ⟨rfl, ⟨_, rfl⟩, HRS⟩⟩
                        case measure => simp [intOf]; omega
                    · have HRS : Hid (ldSpans f n (R : Int) C (-1) x3 = none) := by
                        refine hid ?_
                        rw [hrs.out, HQ.out, ldSpans_succ, hr4]; rfl
                      have e1 : IntKind.i64.wrap (last + 2) = last + 2 := wrapIn _ (by omega) (by omega)
                      have hst5 := hst.out.below b4
                      have HST := hid hst5
                      have c5 := hst5.c
                      have fc5 := hst5.fc
                      have z5 := hst5.z
                      clear b4 hr4 HU3 hst hrs hrd hst5
                      go_wp2_with (at_builtin; refine wpList_app_at rfl _ _ 23 rfl (w.heap.size + 1) 78 i0 _ 3 24 Tryd.underlying23 hi hz0 hz1 hz2 rfl (by decide) _ _ _ rfl (World.ownsRow.alloc HST.out.o _) ⟨w4.heap.size, 0, none⟩ 1 1 [.int .i64 (R : Int), .int .i64 (last + 2), .int .i64 (last + 2)] rfl rfl ?f1 ?f2 ?f3 ?f4 ?f5 ?_)
                      case f1 => exact cell_three_new _ _ _ _ _
                      case f2 => intro u hu; simp at hu; rcases hu with rfl | rfl | rfl <;> rfl
                      case f3 => unfold maxLen; omega
                      case f4 => omega
                      case f5 => simp; omega
                      intro v7 w7 hown7 hgr7 hloc7
                      obtain ⟨y7, m7, c7, rfl⟩ := row_form hown7
                      obtain ⟨q1, q2⟩ := HST.out.mid hgr7
                      have HST7 := hid (HST.out.app hown7 hgr7 (by simpa using hloc7))
                      have h17 : (l' ++ [((R : Int), last + 2, last + 2)]).length = l'.length + 1 := by simp
                      have HW := hid h17
                      clear hown7 hgr7 hloc7 c5 fc5 h17
                      go_wp2_with fail
                      go_roundw
                      case rel => exact ⟨t + 1, _, _, _, htl, by go_num, rfl, by omega, by omega, HST7, by rw [HW.out]; omega, .inr ⟨rfl, ⟨_, rfl⟩, HRS⟩⟩
                      case measure => simp [intOf]; omega
                  · obtain rfl : t = C := by omega
                    have HRD : Hid (ldReps f n V x1 = (ldReps f n (V - (k + 1)) y').bind fun d => some (l' ++ d.1, d.2)) := by
                      refine hid ?_
                      have hs0 : ldSpans f n (R : Int) t (-1) x3 = some (lt, y') := by rw [hrs.out, Nat.sub_self]; simp [ldSpans]
                      rw [hrd.out, HM.out, ldReps_succ, HR2.out, Option.bind_some]
                      dsimp only
                      rw [HR3.out, Option.bind_some]
                      dsimp only
                      rw [hs0, show V - (k + 1) = m from by have := HM.out; omega, hle.out]
                      simp only [Option.bind_some]
                      cases ldReps f n m y' with
                      | none => rfl
                      | some d => simp
                    clear hrs hrd hle
                    go_wp2_with fail
                    go_roundw
                    case rel => exact ⟨k + 1, v, l', hlt, by go_num, hst, by omega, .inl ⟨rfl, y', rfl, hyn', HRD⟩⟩
                    case measure => simp [intOf]; omega
                · have HRD : Hid (ldReps f n V x1 = none) := by
                    refine hid ?_
                    rw [hrd.out, HM.out, ldReps_succ, HR2.out, Option.bind_some]
                    dsimp only
                    rw [HR3.out, Option.bind_some]
                    dsimp only
                    rw [hrs.out]; rfl
                  clear hrs hrd
                  go_wp2_with fail
                  go_roundw
                  case rel => exact ⟨k + 1, v, l', hlt, by go_num, hst, by omega, .inr ⟨rfl, ⟨_, rfl⟩, HRD⟩⟩
                  case measure => simp [intOf]; omega
            · have HRD : Hid (ldReps f n V x1 = none) := by
                refine hid ?_
                rw [hrd.out, HM.out, ldReps_succ, HR2.out, Option.bind_some]
                dsimp only
                rw [hr3]; rfl
              have HST3 := hid (HST2.out.below b3)
              clear b3 hr3 HU2 HST2 hrd hst
              go_wp2_with fail
              refine wp_loop_rounds 1 ?_
              rw [rounds_succ]
              go_wp2_with fail
              go_roundw
              case rel => exact ⟨k + 1, v, l, hlt, by go_num, HST3, by omega, .inr ⟨rfl, ⟨_, rfl⟩, HRD⟩⟩
              case measure => simp [intOf]; omega
          · have HRD : Hid (ldReps f n V x1 = none) := by
              refine hid ?_
              rw [hrd.out, HM.out, ldReps_succ, hr2]; rfl
            have HST2 := hid (hst.out.below b2)
            clear b2 hr2 HU1 hrd hst
            go_wp2_with fail
            refine wp_loop_rounds 1 ?_
            rw [rounds_succ]
            go_wp2_with fail
            go_roundw
            case rel => exact ⟨k + 1, v, l, hlt, by go_num, HST2, by omega, .inr ⟨rfl, ⟨_, rfl⟩, HRD⟩⟩
            case measure => simp [intOf]; omega
        · obtain rfl : k = V := by omega
          have HRD : Hid (ldCtx f n x = some (l, y)) := by
            refine hid ?_
            rw [HR.out, hrd.out, Nat.sub_self]
            simp [ldReps]
          obtain ⟨yv, nv, cv, rfl⟩ := row_form hst.out.o
          have c5 := hst.out.c
          have r5 := hst.out.r
          have fr5 := hst.out.fr
          clear hrd
          go_wp2_with fail
          have k4 := World.cell?_setCell_same wr ⟨w.heap.size, 0, none⟩ (.slice yv nv cv) r5
          have HF : Hid (FR (wr.setCell ⟨w.heap.size, 0, none⟩ (.slice yv nv cv)) w.heap.size (.slice yv nv cv) l) := by
            have h1 := hst.out.o
            have h2 : FR wr w.heap.size (.slice yv nv cv) l := by
              obtain ⟨q1, q2⟩ := h1
              refine ⟨q1, q2.imp id ?_⟩
              rintro ⟨g', cap, cur, e, hg, r⟩
              exact ⟨g', cap, cur, e, by omega, r⟩
            refine hid (World.ownsRow.kept h2 (grownSet wr ⟨w.heap.size, 0, none⟩ (.slice yv nv cv)) ?_)
            cases e : (Value.slice yv nv cv).ownBlock with
            | none => exact .inl rfl
            | some t => exact .inr (fun e2 => by have h3 := (World.ownsRow.lt h1 t e).1; injection e2 with e2; have e2 : t = w.heap.size := e2; omega)
          have HB3 := hid (hst.out.b.setCell (p := ⟨w.heap.size, 0, none⟩) (Nat.le_refl _) (.slice yv nv cv))
          refine bodyPost_ret (v := .tuple #[.agg #[.slice yv nv cv], .int .i64 (y : Int), .bool true]) (by simp [results, Tryd.results23, go_sem, k4]) rfl ?_
          exact ⟨HB3.out, .inl (by first | exact ⟨l, y, .slice yv nv cv, HRD.out, hyn, rfl, HF.out, by omega⟩ | exact ⟨l, y, HRD.out, hyn, .slice yv nv cv, rfl, HF.out, by omega⟩ | exact ⟨l, y, HRD.out, hyn, .slice yv nv cv, rfl, HF.out, by omega⟩)⟩
      · have HRD : Hid (ldCtx f n x = none) := by rw [HR.out]; exact hrd
        obtain ⟨yv, nv, cv, rfl⟩ := row_form hst.out.o
        have c5 := hst.out.c
        have r5 := hst.out.r
        have fr5 := hst.out.fr
        clear hrd
        go_wp2_with fail
        have k4 := World.cell?_setCell_same wr ⟨w.heap.size, 0, none⟩ (.slice yv nv cv) r5
        have HB3 := hid (hst.out.b.setCell (p := ⟨w.heap.size, 0, none⟩) (Nat.le_refl _) (.slice yv nv cv))
        refine bodyPost_ret (v := .tuple #[.agg #[.slice yv nv cv], .int .i64 y, .bool false]) (by simp [results, Tryd.results23, go_sem, k4]) rfl ?_
        exact ⟨HB3.out, .inr ⟨HRD.out, _, _, _, _, rfl⟩⟩
  · have HRD : Hid (ldCtx f n x = none) := by unfold ldCtx; rw [hr]; exact hid rfl
    obtain ⟨c5, r5, fc5, fr5, o5, n5, b5, z5⟩ := HST0.out.below b1
    have HB5 := hid b5
    clear b1 hr HU HST0 HZ o5 n5 b5
    go_wp2_with fail
    refine wp_loop_rounds 1 ?_
    rw [rounds_succ]
    go_wp2_with fail
    have k4 := World.cell?_setCell_same w1 ⟨w.heap.size, 0, none⟩ (.slice (some ⟨w.heap.size + 1, 0, none⟩) 0 0) r5
    have HB3 := hid (HB5.out.setCell (p := ⟨w.heap.size, 0, none⟩) (Nat.le_refl _) (.slice (some ⟨w.heap.size + 1, 0, none⟩) 0 0))
    refine bodyPost_ret (v := .tuple #[.agg #[.slice (some ⟨w.heap.size + 1, 0, none⟩) 0 0], .int .i64 (x : Int), .bool false]) (by simp [results, Tryd.results23, go_sem, k4]) rfl ?_
    exact ⟨HB3.out, .inr ⟨HRD.out, _, _, _, _, rfl⟩⟩
end Go.Proofs.YtbimcammjohaoadDoor
