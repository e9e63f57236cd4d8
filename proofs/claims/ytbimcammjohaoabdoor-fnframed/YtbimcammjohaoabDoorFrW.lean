import Derived.Deep.QuietTactic
import Derived.BigQuiet
import Derived.RegionTactic
import Derived.BigRegion
import Derived.Test.YtbimcammjohaoabDoorFrT
import Derived.Test.YtbimcammjohaoabDoorLaid
namespace Go.Proofs.YtbimcammjohaoabDoor.fnFramed
open Go.ChangeShapes Go.WideShapes Go.ChangeAt Go.RowKit Go.Proofs.YtbimcammjohaoabDoor
set_option linter.unusedVariables false
set_option linter.unusedSimpArgs false

def endC (L : List (Int × List Int)) (j : Nat) : List Value := (List.range j).map (fun i => Value.int .i64 (eAt L (i + 1) : Nat))
theorem endC_succ (L : List (Int × List Int)) (j : Nat) : endC L (j + 1) = endC L j ++ [.int .i64 (eAt L (j + 1) : Nat)] := by
  simp [endC, List.range_succ]
theorem endC_len (L : List (Int × List Int)) (j : Nat) : (endC L j).length = j := by simp [endC]
theorem encT_succ (L : List (Int × List Int)) (j : Nat) (hj : j < L.length) : encL (L.take (j + 1)) = encL (L.take j) ++ frB (L[j]).1 (gz (L[j]).2) (L[j]).2.length := by
  rw [List.take_add_one, List.getElem?_eq_getElem hj, encL_app]
  simp [encL]
theorem eAt_succ (L : List (Int × List Int)) (j : Nat) (hj : j < L.length) : eAt L (j + 1) = eAt L j + (frB (L[j]).1 (gz (L[j]).2) (L[j]).2.length).length := by
  unfold eAt; rw [encT_succ L j hj, List.length_append]
theorem eAt_le (L : List (Int × List Int)) (h : ∀ x ∈ L, x.2.length ≤ 135) : ∀ j, j ≤ L.length → eAt L j ≤ 160 * j
  | 0, _ => by rw [eAt_zero]; omega
  | j + 1, hj => by
    have := eAt_le L h j (by omega)
    have h1 := h (L[j]) (List.getElem_mem _)
    have h2 := frB_lenB (L[j]).1 (gz (L[j]).2) (L[j]).2.length
    rw [eAt_succ L j (by omega)]
    omega
theorem eAt_all (L : List (Int × List Int)) : eAt L L.length = (encL L).length := by unfold eAt; rw [List.take_length]
theorem infoI : (Tryd.prog.info? 3).map (fun i => (i.zero, i.size, i.bytes)) = some (some (.int .i64 0), 1, 8) := by kernel_rfl
theorem cell1A (w : World) (a : Value) (t : TypeId) : ∀ j u, [a][j]? = some u → (w.alloc (.cells #[a] t)).cell? ((⟨w.heap.size, 0, none⟩ : Addr).add j) = some u := by
  intro j u hj
  rcases j with _ | j
  · simp at hj; subst hj; simp [Addr.add]
  · simp at hj
theorem enc_byte : ∀ (L : List (Int × List Int)), (∀ x ∈ L, FOk x) → ∀ z ∈ encL L, 0 ≤ z ∧ z < 256
  | [], _, z, hz => by simp [encL] at hz
  | x :: L, h, z, hz => by
    rw [encL_cons] at hz
    obtain ⟨h1, h3, hn, hb⟩ := h x (by simp)
    rcases List.mem_append.1 hz with hz | hz
    · exact frB_byteB (k := x.1) (n := x.2.length) hb h1 h3 (by omega) z hz
    · exact enc_byte L (fun y hy => h y (by simp [hy])) z hz
theorem uv_one {n : Nat} (h : n ≤ 127) : (uvF 9 n).length = 1 := by
  unfold uvF; rw [if_pos (by omega)]; rfl
theorem enc_pos : ∀ (L : List (Int × List Int)), 1 ≤ L.length → 1 ≤ (encL L).length
  | [], h => by simp at h
  | x :: L, _ => by
    rw [encL_cons, List.length_append, frB_length]; omega
theorem own_form3 {w : World} {B : Nat} {v : Value} {zs : List Int} (h : Own w B v zs) : ∃ a c, v = .slice a zs.length c ∧ Seg w a zs.length (gz zs) ∧ zs.length ≤ c ∧ c ≤ 9223372036854775807 ∧ (∀ b, (Value.slice a zs.length c).ownBlock = some b → b < w.heap.size) := by
  rcases own_form h with ⟨rfl, h0⟩ | ⟨g, cap, rfl, _, h1, h2, h3, h4⟩
  · exact ⟨none, 0, by rw [h0], .inl h0, by omega, by omega, fun b hb => by simp [Value.ownBlock] at hb⟩
  · exact ⟨_, cap, rfl, .inr ⟨g, 0, rfl, h1, fun i hi => by rw [Nat.zero_add]; exact h4 i hi⟩, h2, h3, fun b hb => by simp [Value.ownBlock] at hb; omega⟩
theorem feed0 (F : Nat → Int) : feedF F 0 0 = (0, 0, []) := by
  have e : firstF (shF F 0) (0 - 0) = (0, 0) := by unfold firstF; simp [headF]
  rw [feedF_stop (by rw [e]), e]
theorem fx_bnd2 {l4 l : List Fx} (hall : ∀ x ∈ l, DFx x) (he : l4.map prFx = l.map prFx) : (∀ i, (gFx l4 i).2.2.length ≤ 1048576) ∧ ∀ i, Byt (gz (gFx l4 i).2.2) := by
  have key : ∀ i, (gFx l4 i).2.2.length ≤ 135 ∧ Byt (gz (gFx l4 i).2.2) := fun i => by
    by_cases hi : i < l4.length
    · have hm : prFx (gFx l4 i) ∈ l.map prFx := by
        rw [← he]
        have e : gFx l4 i = l4[i] := by simp [gFx, List.getD, hi]
        rw [e]; exact List.mem_map_of_mem (List.getElem_mem hi)
      obtain ⟨x, hx, e⟩ := List.mem_map.1 hm
      have e2 : (gFx l4 i).2.2 = x.2.2 := (congrArg Prod.snd e).symm
      rw [e2]; exact ⟨(hall x hx).2.2.1, (hall x hx).2.2.2.1⟩
    · have e : gFx l4 i = (0, .slice none 0 0, []) := by simp [gFx, List.getD, List.getElem?_eq_none (show l4.length ≤ i by omega)]
      rw [e]; exact ⟨by simp, gz_byte (fun z hz => by cases hz)⟩
  exact ⟨fun i => by have := (key i).1; omega, fun i => (key i).2⟩
theorem uv_two {n : Nat} (h : 128 ≤ n) (h2 : n ≤ 16383) : (uvF 9 n).length = 2 := by
  rw [uvF_ge 8 n (by omega), uvF_lt 8 (n / 128) (by omega)]; rfl
theorem gz_set_same {zs : List Int} {p : Nat} {y : Int} (h : p < zs.length) : gz (zs.set p y) p = y := by
  unfold gz; simp [List.getD, h]
theorem gz_set_other {zs : List Int} {p i : Nat} {y : Int} (h : i ≠ p) : gz (zs.set p y) i = gz zs i := by
  unfold gz; simp only [List.getD]; rw [List.getElem?_set_ne (fun e => h e.symm)]
theorem gz_set_byt {zs : List Int} {p : Nat} {y : Int} (h : Byt (gz zs)) (hy : 0 ≤ y ∧ y < 256) : Byt (gz (zs.set p y)) := fun i => by
  by_cases hi : i = p
  · subst hi
    by_cases hl : i < zs.length
    · rw [gz_set_same hl]; exact hy
    · rw [List.set_eq_of_length_le (by omega)]; exact h i
  · rw [gz_set_other hi]; exact h i
theorem bad_set (L : List (Int × List Int)) (zs : List Int) (hzs : encL L = zs) (hFO : ∀ x ∈ L, FOk x) (q p : Nat) (hq : q < L.length) (y : Int) (hy : 0 ≤ y ∧ y < 256) (hne : y ≠ gz zs p) (h1 : eAt L q ≤ p) (h2 : p < eAt L (q + 1)) (h3 : p < eAt L q + 3 ∨ eAt L (q + 1) ≤ p + 4 + (L[q]).2.length) : ∃ X Y, X ≠ 0 ∧ feedF (gz (zs.set p y)) zs.length 0 = (X, Y, L.take q) := by
  subst hzs
  have hB : Byt (gz (encL L)) := gz_byte (enc_byte _ hFO)
  have hle : eAt L (q + 1) ≤ (encL L).length := by
    have e : encL L = encL (L.take (q + 1)) ++ encL (L.drop (q + 1)) := by rw [← encL_app, List.take_append_drop]
    have := congrArg List.length e
    rw [List.length_append] at this
    unfold eAt; omega
  refine feed_bad (gz_set_byt hB hy) L q 0 (encL L).length p hq hFO (fun i hi hne' => by rw [Nat.zero_add]; exact gz_set_other hne') ?_ h1 h2 h3 (by omega)
  rw [Nat.zero_add, gz_set_same (by omega)]
  exact hne
theorem FxS.take {w : World} {a : Option Addr} {l : List Fx} (h : FxS w a l) (q : Nat) (hq : q ≤ l.length) : FxS w a (l.take q) := by
  have hlen : (l.take q).length = q := by rw [List.length_take]; omega
  rcases h with h | ⟨g, off, e, hg, hc⟩
  · exact .inl (by rw [hlen]; omega)
  · refine .inr ⟨g, off, e, hg, fun i hi => ?_⟩
    rw [hlen] at hi
    have eg : gFx (l.take q) i = gFx l i := by unfold gFx; simp only [List.getD]; rw [List.getElem?_take_of_lt hi]
    rw [eg]; exact hc i (by omega)

structure FlI (w1 wr : World) (L : List (Int × List Int)) (j : Nat) (av ev : Value) : Prop where
  bel : Below w1.heap.size w1 wr
  al : Own wr w1.heap.size av (encL (L.take j))
  en : wr.ownsRow w1.heap.size 3 1 ev j (endC L j)
  dj : ∀ k, av.ownBlock = some k → ev.ownBlock ≠ some k

set_option maxRecDepth 100000 in
set_option maxHeartbeats 2000000 in
theorem walk (w : World) (a1 : Option Addr) (n1 c1 : Nat) (f1 : Nat → Int) (a2 : Option Addr) (n2 c2 : Nat) (f2 : Nat → Int) (aT aS aL aE : Addr) (hn1 : n1 ≤ 9223372036854775807) (hnc1 : n1 ≤ c1) (hn2 : n2 ≤ 9223372036854775807) (hnc2 : n2 ≤ c2) (s1 : Seg w a1 n1 f1) (hf1 : Byt f1) (s2 : Seg w a2 n2 f2) (hf2 : Byt f2) (hE : Errs w w.heap.size aT aS aL aE) :
    Calls Tryd.prog 3 #[.slice a1 n1 c1, .slice a2 n2 c2] w fun e w' => e = .returned (.bool true) ∧ Below w.heap.size w w' := by
  by_cases hl1 : n1 ≤ 1048576
  · by_cases hl2 : n2 ≤ 1048576
    · have HST := hid (streamFC a1 n1 c1 f1 w hnc1 hn1 s1 hf1)
      have HS2 := hid s2
      have HF2 := hid hf2
      have HER := hid hE
      clear s1 hf1 s2 hf2 hE
      go_enter Tryd.func3, Tryd.ntmps3
      go_wp2_with fail
      refine HST.out.mono ?_
      rintro e w1 ⟨v1, l, rfl, hl1', hl4, hall, gt, b1⟩
      obtain ⟨gl, cl, rfl⟩ : ∃ gl cl, v1 = .slice (some ⟨gl, 0, none⟩) l.length cl := by
        rcases gt.row.2 with ⟨e, e0⟩ | ⟨g, cap, cur, e, _⟩
        · omega
        · exact ⟨g, cap, e⟩
      have HGT := hid gt
      have HAL := hid hall
      have HB1 := hid b1
      obtain ⟨W2, hW2⟩ : ∃ W2, w1.alloc (.cells #[] 5) = W2 := ⟨_, rfl⟩
      obtain ⟨W3, hW3⟩ : ∃ W3, W2.alloc (.cells #[] 3) = W3 := ⟨_, rfl⟩
      have b2 : Below w1.heap.size w1 W2 := by rw [← hW2]; exact (Below.refl _ _).alloc (Nat.le_refl _) _
      have b3 : Below W2.heap.size W2 W3 := by rw [← hW3]; exact (Below.refl _ _).alloc (Nat.le_refl _) _
      have zz2 : W2.heap.size = w1.heap.size + 1 := by rw [← hW2]; simp
      have HI0 : Hid (FlI w1 W3 (l.map prFx) 0 (.slice (some ⟨w1.heap.size, 0, none⟩) 0 0) (.slice (some ⟨w1.heap.size + 1, 0, none⟩) 0 0)) := hid (by
        refine ⟨keepS b2 b3, ?_, ?_, ?_⟩
        · have := rowE w1 w1.heap.size (Nat.le_refl _)
          rw [hW2] at this
          exact Own.kept this b3 (fun k hk => by simp [Value.ownBlock] at hk; omega)
        · have := World.ownsRow_lit (base := w1.heap.size) (e := 3) (size := 1) W2 #[] 0 (by omega) (by unfold maxLen; omega) rfl
          rw [hW3, zz2] at this
          simpa [endC] using this
        · intro k hk; simp [Value.ownBlock] at hk ⊢; omega)
      obtain ⟨i0, hi0, iz0, iz1, iz2⟩ := info_parts infoI
      have HW2 := hid hW2
      have HW3 := hid hW3
      clear b2 b3 zz2 hW2 hW3 gt hall b1 HST
      go_wp2_with fail
      rw [HW2.out, HW3.out]
      clear HW2 HW3
      go_loopw [6, 7, 8] (fun av ev iv wr => ∃ j : Nat, j ≤ l.length ∧ iv = .int .i64 (j : Int) ∧ Hid (FlI w1 wr (l.map prFx) j av ev)) (fun _ _ iv _ => l.length - (intOf iv).toNat)
      case atStart => exact ⟨0, Nat.zero_le _, rfl, HI0⟩
      case round =>
        clear HI0
        obtain ⟨j, hj, rfl, hI⟩ := hrel
        by_cases hlt : j < l.length
        · obtain ⟨x, hx⟩ : ∃ x, gFx l j = x := ⟨_, rfl⟩
          have hlj : l[j] = x := by rw [← hx]; simp [gFx, List.getD, hlt]
          have hmem : x ∈ l := by rw [← hlj]; exact List.getElem_mem hlt
          obtain ⟨hk1, hk3, hp5, hpb, gp, cp, hpe⟩ := HAL.out x hmem
          have hgl : gl < w1.heap.size := (World.ownsRow.lt HGT.out.row gl rfl).2
          have q1 : w1.cell? ⟨gl, j * 2, none⟩ = some (.int .i64 x.1) := by
            rw [HGT.out.row.cellAt _ (by omega), ← hx]; exact (fxCells_get l j hlt).1
          have q2 : w1.cell? ⟨gl, j * 2 + 1, none⟩ = some (.slice (some ⟨gp, 0, none⟩) x.2.2.length cp) := by
            rw [HGT.out.row.cellAt _ (by omega), ← hpe, ← hx]; exact (fxCells_get l j hlt).2
          have q3 : Seg w1 (some ⟨gp, 0, none⟩) x.2.2.length (gz x.2.2) := by
            have h1 := HGT.out.pay j hlt
            rw [hx, hpe] at h1
            obtain ⟨y, c', e, s⟩ := h1.any
            injection e with e _ _
            rw [e]; exact s
          have HLJ : Hid ((l.map prFx)[j]'(by simpa using hlt) = (x.1, x.2.2)) := hid (by simp [hlj, prFx])
          obtain ⟨kd, hkd⟩ : ∃ kd, x.1 = kd := ⟨_, rfl⟩
          obtain ⟨ps, hps⟩ : ∃ ps, x.2.2 = ps := ⟨_, rfl⟩
          rw [hkd] at q1 hk1 hk3 HLJ
          rw [hps] at q2 q3 hp5 hpb HLJ
          clear hkd hps hpe hmem hlj hx
          have HI := hid hI.out
          have bI := hI.out.bel
          have zI := bI.size
          have x0 := (bI.cell (p := ⟨gl, j * 2, none⟩) hgl).trans q1
          have x1 := (bI.cell (p := ⟨gl, j * 2 + 1, none⟩) hgl).trans q2
          have hok : okF kd ps.length = true := by simp [okF]; omega
          have HFZ : Hid (frZ kd (gz ps) ps.length = frB kd (gz ps) ps.length) := by unfold frZ; rw [hok]; exact hid rfl
          have HPI := hid (implPFc gp ps.length cp kd (gz ps) wr (by omega) (by omega) (by omega) hpb (q3.below bI))
          have HPS : Hid (∀ w' : World, Below wr.heap.size wr w' → Calls Tryd.prog 6 #[.agg #[.int .i64 kd, .slice (some ⟨gp, 0, none⟩) ps.length cp]] w' fun e w2 => ∃ v, e = .returned (.tuple #[v, .bool (okF kd ps.length)]) ∧ Own w2 w'.heap.size v (frZ kd (gz ps) ps.length) ∧ Below w'.heap.size w' w2) := hid (fun w' hb => specPFc gp ps.length cp kd (gz ps) w' (by omega) (by omega) (by omega) hpb ((q3.below bI).below hb))
          rw [hok, HFZ.out] at HPI HPS
          have HFB := hid (gz_byte (frB_byteB (k := kd) (n := ps.length) hpb hk1 hk3 (by omega)))
          have HFL := hid (frB_lenB kd (gz ps) ps.length)
          have HES := hid (encT_succ (l.map prFx) j (by simpa using hlt))
          have HET := hid (eAt_succ (l.map prFx) j (by simpa using hlt))
          rw [HLJ.out] at HES HET
          dsimp only at HES HET
          obtain ⟨fb, hfb⟩ : ∃ fb, frB kd (gz ps) ps.length = fb := ⟨_, rfl⟩
          rw [hfb] at HPI HPS HFB HFL HES HET
          have i1 : (0 : Int) ≤ (j : Int) := Int.natCast_nonneg _
          have i2 : (j : Int) < (l.length : Int) := by omega
          have dlt : decide ((j : Int) < (l.length : Int)) = true := by simp; omega
          clear hfb HFZ hok q1 q2 q3 bI hI hpb HLJ
          go_wp2_with fail
          refine HPI.out.mono ?_
          rintro e w4 ⟨v4, rfl, o4, b4⟩
          have z4 := b4.size
          obtain ⟨a4, c4, rfl, s4⟩ := o4.any
          have y0 := (b4.cell (p := ⟨gl, j * 2, none⟩) (show gl < wr.heap.size by omega)).trans x0
          have y1 := (b4.cell (p := ⟨gl, j * 2 + 1, none⟩) (show gl < wr.heap.size by omega)).trans x1
          have HB4 := hid b4
          have s4' : Seg w4 a4 fb.length (gz fb) := s4
          have HO4 := hid s4'
          clear b4 o4 s4 s4' x0 x1 HPI
          go_wp2_with fail
          refine (HPS.out w4 HB4.out).mono ?_
          rintro e w5 ⟨v5, rfl, o5, b5⟩
          have z5 := b5.size
          obtain ⟨a5, c5, rfl, s5⟩ := o5.any
          have s5' : Seg w5 a5 fb.length (gz fb) := s5
          have S4 := hid (HO4.out.below b5)
          have HB5 := hid (keepS HB4.out b5)
          have cv1 := fun cap => seg_conv S4.out HFB.out 0 cap
          have cv2 := fun cap => seg_conv s5' HFB.out 0 cap
          simp only [World.drewN_zero] at cv1 cv2
          obtain ⟨S, hS⟩ : ∃ S, strG (gz fb) 0 fb.length = S := ⟨_, rfl⟩
          rw [hS] at cv1 cv2
          have dS : (S.toList == S.toList) = true := by simp
          have OA : Hid (Own w5 w1.heap.size u6 (encL ((l.map prFx).take j))) := hid (HI.out.al.kept HB5.out (fun k hk => (World.ownsRow.lt HI.out.al k hk).2))
          unfold Own at OA
          clear hS b5 o5 s5 s5' HB4 HO4 HPS y0 y1
          have HEN := hid (World.ownsRow.kept HI.out.en (row := none) ⟨HB5.out.os, HB5.out.tape, HB5.out.output, HB5.out.size, fun k hk _ => HB5.out.block k hk⟩ (by cases u7.ownBlock <;> simp))
          have hEL : (encL ((l.map prFx).take j)).length ≤ 160 * j := eAt_le (l.map prFx) (fun y hy => by
            obtain ⟨x', hx', rfl⟩ := List.mem_map.1 hy
            exact (HAL.out x' hx').2.2.1) j (by simpa using hj)
          have HEL := hid hEL
          have hFL := HFL.out
          have hbl := HI.out.bel.size
          have hbl5 := HB5.out.size
          clear hEL
          go_wp2_with (at_builtin; refine wpList_app_sg rfl _ _ rfl w1.heap.size _ _ _ rfl OA.out a4 fb.length c4 (gz fb) rfl S4.out ?c3 ?c4 ?c5 ?_)
          case c3 => have := HEL.out; unfold maxLen; omega
          case c4 => have := HEL.out; omega
          case c5 => omega
          intro v6 w6 hown6 hgr6 hloc6
          have O6 : Own w6 w1.heap.size v6 (encL ((l.map prFx).take (j + 1))) := by
            unfold Own
            rw [HES.out, List.length_append, List.map_append, ← cells_gz fb]
            exact hown6
          have z6 := hgr6.size
          have d6 : ∀ k, v6.ownBlock = some k → u7.ownBlock ≠ some k := fun k hk e => by
            rcases hloc6 with q | q
            · exact HI.out.dj k (q ▸ hk) e
            · rw [q] at hk; injection hk with hk; have := (World.ownsRow.lt HI.out.en k e).2; omega
          have l6 : ∀ k, v6.ownBlock = some k → k < w6.heap.size := fun k hk => (World.ownsRow.lt O6 k hk).2
          have EN6 : w6.ownsRow w1.heap.size 3 1 u7 j (endC (l.map prFx) j) := World.ownsRow.kept HEN.out hgr6 (by
            cases e : u7.ownBlock with
            | none => exact .inl rfl
            | some g => exact .inr (fun e2 => HI.out.dj g e2.symm e))
          have B6 : Below w1.heap.size w1 w6 := (HI.out.bel.trans (HB5.out.mono hbl)).grown hgr6 (by omega) (fun k hk => (World.ownsRow.lt HI.out.al k hk).1)
          obtain ⟨a6, c6, e6, _⟩ := O6.any
          subst e6
          have hm6 : eAt (l.map prFx) (j + 1) = (encL ((l.map prFx).take (j + 1))).length := rfl
          obtain ⟨m6, hm⟩ : ∃ m6, (encL ((l.map prFx).take (j + 1))).length = m6 := ⟨_, rfl⟩
          rw [hm] at hm6 d6 l6
          have HO6 := hid O6
          unfold Own at HO6
          rw [hm]
          have H6 := hid (And.intro d6 (And.intro l6 (And.intro B6 hm6)))
          have HR6 := hid (World.ownsRow.alloc EN6 (.cells #[.int .i64 (m6 : Int)] 3))
          have HNW := hid (cell1A w6 (.int .i64 (m6 : Int)) 3)
          have HM := hid hm
          have z65 := B6.size
          clear hown6 hgr6 hloc6 O6 d6 l6 EN6 B6 hm6 hm HEN OA S4 HB5 HFB
          go_wp2_with (at_builtin; refine wpList_app_at rfl _ _ 25 rfl w1.heap.size 3 i0 _ 1 8 Tryd.underlying25 hi0 iz0 iz1 iz2 rfl (by decide) _ _ _ rfl HR6.out ⟨w6.heap.size, 0, none⟩ 1 1 [.int .i64 (m6 : Int)] ?g0 rfl ?g1 ?g2 ?g3 ?g4 ?g5 ?_)
          case g0 => rfl
          case g1 => exact HNW.out
          case g2 => intro u hu; simp at hu; rw [hu]; rfl
          case g3 => unfold maxLen; omega
          case g4 => omega
          case g5 => simp; omega
          intro v7 w7 hown7 hgr7 hloc7
          have gg : w6.grownBy w7 u7.ownBlock := (World.grownBy_alloc w6 _ _).trans hgr7
          have HN : Hid (FlI w1 w7 (l.map prFx) (j + 1) (.slice a6 m6 c6) v7) := hid (by
            obtain ⟨d6, l6, B6, hm6⟩ := H6.out
            have O6 : Own w6 w1.heap.size (.slice a6 m6 c6) (encL ((l.map prFx).take (j + 1))) := by unfold Own; rw [← HM.out]; exact HO6.out
            refine ⟨B6.grown gg (by omega) (fun k hk => (World.ownsRow.lt HI.out.en k hk).1), O6.gr gg (fun k e1 e2 => d6 k e1 e2.symm), ?_, fun k hk e => ?_⟩
            · rw [endC_succ, hm6]; exact hown7
            · rcases hloc7 with q | q
              · exact d6 k hk (q ▸ e)
              · rw [q] at e; injection e with e; have := l6 k hk; (try simp at e); omega)
          clear hown7 hgr7 hloc7 gg HR6 HNW HO6 H6 HM HI HES HET
          go_wp2_with fail
          go_roundw
          case rel => exact ⟨j + 1, hlt, by go_num, HN⟩
          case measure => simp [intOf]; omega
        · obtain rfl : j = l.length := by omega
          have hLl : (l.map prFx).length = l.length := by simp
          have hal := hI.out.al
          have hen := hI.out.en
          have hdj := hI.out.dj
          have hbel := hI.out.bel
          rw [← hLl, List.take_length] at hal
          have hFO : ∀ x ∈ l.map prFx, FOk x := fun y hy => by
            obtain ⟨x', hx', rfl⟩ := List.mem_map.1 hy
            obtain ⟨h1, h2, h3, h4, _⟩ := HAL.out x' hx'
            exact ⟨h1, h2, by show x'.2.2.length ≤ 4000; omega, h4⟩
          have hF : Byt (gz (encL (l.map prFx))) := gz_byte (enc_byte _ hFO)
          have hfeed := feed_enc hF (l.map prFx) 0 (encL (l.map prFx)).length hFO (fun i _ => by rw [Nat.zero_add]) (by omega)
          have hE1 : (encL (l.map prFx)).length ≤ 640 := by
            have := eAt_le (l.map prFx) (fun y hy => by
              obtain ⟨x', hx', rfl⟩ := List.mem_map.1 hy
              exact (HAL.out x' hx').2.2.1) l.length (by omega)
            rw [← hLl, eAt_all] at this; omega
          have hE0 : 1 ≤ (encL (l.map prFx)).length := enc_pos _ (by omega)
          have HBAD := hid (fun (f : Nat → Int) (hf : Byt f) => feed_bad hf (l.map prFx))
          obtain ⟨zs, hzs⟩ : ∃ zs, encL (l.map prFx) = zs := ⟨_, rfl⟩
          rw [hzs] at hal hF hfeed hE1 hE0 HBAD
          obtain ⟨ga, ca, rfl, hga, hga2, hca⟩ : ∃ ga ca, u6 = .slice (some ⟨ga, 0, none⟩) zs.length ca ∧ w1.heap.size ≤ ga ∧ ga < wr.heap.size ∧ zs.length ≤ ca ∧ ca ≤ 9223372036854775807 := by
            obtain ⟨y, c', e, s, h1, h2, h3⟩ := own_form3 hal
            rcases hal.2 with ⟨e', e0⟩ | ⟨g, cap, cur, e', _⟩
            · omega
            · have hh := World.ownsRow.lt hal g (by rw [e']; rfl)
              rw [e'] at e
              injection e with _ _ e3
              exact ⟨g, cap, e', hh.1, hh.2, by omega, by omega⟩
          obtain ⟨ge, ce, rfl, hge2⟩ : ∃ ge ce, u7 = .slice (some ⟨ge, 0, none⟩) l.length ce ∧ ge < wr.heap.size := by
            rcases hen.2 with ⟨e', e0⟩ | ⟨g, cap, cur, e', _⟩
            · omega
            · exact ⟨g, cap, e', (World.ownsRow.lt hen g (by rw [e']; rfl)).2⟩
          have hne : ga ≠ ge := fun e => hdj ga rfl (by rw [e]; rfl)
          have hseg : Seg wr (some ⟨ga, 0, none⟩) zs.length (gz zs) := by
            obtain ⟨y, c', e, s, _⟩ := own_form3 hal
            injection e with e1 _ _
            rw [e1]; exact s
          have HBW := hid (keepS HB1.out hbel)
          have HBL := hid hbel
          have zb := hbel.size
          have HF := hid hF
          have HZS := hid hzs
          have HAW := hid hal
          have HEW := hid hen
          have HFD := hid hfeed
          have HIM := hid (feedStepC (gz zs) hF 0 zs.length (by omega) wr.heap.size (.slice none 0 0) (some ⟨ga, 0, none⟩) ca (gz zs) hF w.heap.size aT aS aL aE wr (by
            have e : restF (gz zs) 0 = 0 := by unfold restF; rw [feed0]; simp
            rw [e]; unfold Own; exact World.ownsRow_nil _ _ _ _) hseg (fun i hi => by rw [Nat.zero_add]) (HER.out.below HBW.out) HBW.out.size)
          have hR : restF (gz zs) zs.length = 0 := by unfold restF; rw [hfeed]; simp
          rw [feed0, Nat.zero_add, hR, hfeed] at HIM
          dsimp only at HIM
          have dlt : decide ((l.length : Int) < (l.length : Int)) = false := by simp
          clear hal hen hdj hbel hI hF hfeed hseg hzs hR hFO
          go_wp2_with fail
          refine HIM.out.mono ?_
          rintro e w4 ⟨b4, v4, fv4, lg, rfl, o4, fx4, hl9⟩
          obtain ⟨a4, c4, rfl, s4⟩ := own_seg8 o4
          obtain ⟨fa4, fc4, rfl, fs4⟩ := fx4.fxs
          have hlg : lg.map prFx = l.map prFx := by simpa using hl9.symm
          obtain ⟨W5, hW5⟩ : ∃ W5, w4.alloc (.cells #[.slice a4 0 c4, .int .i64 (zs.length : Int), .int .i64 0] 31) = W5 := ⟨_, rfl⟩
          have b5 : Below w4.heap.size w4 W5 := by rw [← hW5]; exact (Below.refl _ _).alloc (Nat.le_refl _) _
          have b45 := keepS b4 b5
          have x0 : W5.cell? ⟨w4.heap.size, 0, none⟩ = some (.slice a4 0 c4) := by rw [← hW5]; simp
          have x1 : W5.cell? ⟨w4.heap.size, 1, none⟩ = some (.int .i64 (zs.length : Int)) := by rw [← hW5]; simp
          have x2 : W5.cell? ⟨w4.heap.size, 2, none⟩ = some (.int .i64 0) := by rw [← hW5]; simp
          have HB5 := hid b45
          have z5 := b45.size
          have FS5 : Hid (FxS W5 (some ⟨gl, 0, none⟩) l) := hid (by
            obtain ⟨y, c', e, s⟩ := HGT.out.fxs
            injection e with e1 _ _
            rw [e1]
            exact (s.below HBL.out).below b45)
          obtain ⟨bd1, bd2⟩ := fx_bnd2 HAL.out hlg
          have hlgl : lg.length = l.length := by have := congrArg List.length hlg; simpa using this
          have HSM := hid (sameFramesC fa4 (some ⟨gl, 0, none⟩) fc4 cl lg l W5 (by omega) bd1 (fs4.below b5) FS5.out hlg bd2)
          have HW5 := hid hW5
          clear b4 b5 b45 o4 fx4 s4 fs4 hl9 hlg bd1 bd2 HIM FS5 hW5 x0 x1 x2 hlgl
          have dN : ((zs.length : Int) != (zs.length : Int)) = false := by simp
          go_wp2_with fail
          rw [HW5.out]
          clear HW5
          refine HSM.out.mono ?_
          rintro e w6 ⟨rfl, b6⟩
          have HB6 := hid (keepS HB5.out b6)
          have z6 := b6.size
          clear b6 HB5 HSM
          by_cases h3 : n2 < 3
          · have HBE := hid (keepS HBW.out HB6.out)
            have d3 : decide ((n2 : Int) < 3) = true := by simp; omega
            clear HB6
            go_wp2_with fail
            go_ret
            exact ⟨rfl, HBE.out⟩
          · have d3 : decide ((n2 : Int) < 3) = false := by simp; omega
            have HBE := hid (keepS HBW.out HB6.out)
            have HGL : Hid (gl < w6.heap.size ∧ ∀ i u, w1.cell? ⟨gl, i, none⟩ = some u → w6.cell? ⟨gl, i, none⟩ = some u) := hid (by
              have hgl : gl < w1.heap.size := (World.ownsRow.lt HGT.out.row gl rfl).2
              have := HB6.out.size
              exact ⟨by omega, fun i u h => ((HB6.out.cell (p := ⟨gl, i, none⟩) (show gl < wr.heap.size by omega)).trans (HBL.out.cell (p := ⟨gl, i, none⟩) hgl)).trans h⟩)
            have HBEQ : Hid (∀ i, i < l.length → eAt (l.map prFx) (i + 1) ≤ 640) := hid (fun i hi => by
              have := eAt_le (l.map prFx) (fun y hy => by
                obtain ⟨x', hx', rfl⟩ := List.mem_map.1 hy
                exact (HAL.out x' hx').2.2.1) (i + 1) (by omega)
              omega)
            have HCE : Hid (∀ i, i < l.length → w6.cell? ⟨ge, i, none⟩ = some (.int .i64 (eAt (l.map prFx) (i + 1) : Nat))) := hid (fun i hi => by
              rw [HB6.out.cell (p := ⟨ge, i, none⟩) hge2, HEW.out.cellAt i (by omega)]
              simp [endC, hi])
            obtain ⟨mb, mo, rfl, hmb, hmc⟩ : ∃ mb mo, a2 = some ⟨mb, mo, none⟩ ∧ mb < w.heap.size ∧ ∀ i, i < n2 → w.cell? ⟨mb, mo + i, none⟩ = some (.int .u8 (f2 i)) := by
              rcases HS2.out with h | ⟨b, o, e, hb, hc⟩
              · omega
              · exact ⟨b, o, e, hb, hc⟩
            have g0 := HF2.out 0
            have g1 := HF2.out 1
            have g2 := HF2.out 2
            obtain ⟨k0, hk0⟩ : ∃ k : Nat, f2 0 = (k : Int) := ⟨(f2 0).toNat, by omega⟩
            obtain ⟨k1, hk1⟩ : ∃ k : Nat, f2 1 = (k : Int) := ⟨(f2 1).toNat, by omega⟩
            obtain ⟨k2, hk2⟩ : ∃ k : Nat, f2 2 = (k : Int) := ⟨(f2 2).toNat, by omega⟩
            have m0 := (HBE.out.cell (p := ⟨mb, mo, none⟩) hmb).trans (hmc 0 (by omega))
            have m1 := (HBE.out.cell (p := ⟨mb, mo + 1, none⟩) hmb).trans (hmc 1 (by omega))
            have m2 := (HBE.out.cell (p := ⟨mb, mo + 2, none⟩) hmb).trans (hmc 2 (by omega))
            rw [hk0] at m0 g0
            rw [hk1] at m1 g1
            rw [hk2] at m2 g2
            obtain ⟨N, hN⟩ : ∃ N, zs.length = N := ⟨_, rfl⟩
            have HNE := hid hN
            obtain ⟨t0, ht0⟩ : ∃ t : Nat, (k0 : Int) * 256 = (t : Int) := ⟨k0 * 256, by omega⟩
            obtain ⟨t1, ht1⟩ : ∃ t : Nat, (t0 : Int) + (k1 : Int) = (t : Int) := ⟨t0 + k1, by omega⟩
            obtain ⟨p, hp⟩ : ∃ p : Nat, (t1 : Int) % (N : Int) = (p : Int) := ⟨t1 % N, by omega⟩
            have hpN : p < N := by
              have h1 : (0 : Int) < (N : Int) := by omega
              have := Int.emod_lt_of_pos (t1 : Int) h1
              omega
            have w0 : IntKind.i64.wrap ((k0 : Int) * 256) = (t0 : Int) := by rw [IntKind.wrap_i64]; omega
            have w1' : IntKind.i64.wrap ((t0 : Int) + (k1 : Int)) = (t1 : Int) := by rw [IntKind.wrap_i64]; omega
            have w2' : IntKind.i64.wrap ((t1 : Int) % (N : Int)) = (p : Int) := by rw [IntKind.wrap_i64]; omega
            have c0 : IntKind.i64.wrap (k0 : Int) = (k0 : Int) := by rw [IntKind.wrap_i64]; omega
            have c1' : IntKind.i64.wrap (k1 : Int) = (k1 : Int) := by rw [IntKind.wrap_i64]; omega
            have nz : ((N : Int) == 0) = false := by simp; omega
            have nz' : ¬ (N : Int) = 0 := by omega
            have r1 : Int.tmod (t1 : Int) (N : Int) = (p : Int) := by rw [Int.tmod_eq_emod_of_nonneg (by omega)]; exact hp
            have j0 : (0 : Int) < (n2 : Int) := by omega
            have j1 : (1 : Int) < (n2 : Int) := by omega
            have j2 : (2 : Int) < (n2 : Int) := by omega
            rw [hN]
            have z66 := HB6.out.size
            clear hmc hk0 hk1 hk2 hN
            go_wp2_with fail
            go_quiet (fail)
            have HAT : Hid (eAt (l.map prFx) l.length = N) := hid (by rw [← hLl, eAt_all, HZS.out]; exact HNE.out)
            clear g0 g1 w0 w1' w2' c0 c1' nz nz' r1 ht0 ht1 hp m0 m1
            go_wp2_with fail
            go_loopw [16] (fun iv wq => ∃ q : Nat, q < l.length ∧ iv = .int .i64 (q : Int) ∧ Hid (eAt (l.map prFx) q ≤ p) ∧ Hid (Below w6.heap.size w6 wq)) (fun iv _ => l.length - (intOf iv).toNat)
            case atStart => exact ⟨0, by omega, rfl, hid (by rw [eAt_zero]; omega), hid (below_drewN (Below.refl _ _) _)⟩
            case round =>
              obtain ⟨q, hq, rfl, hqp, hqb⟩ := hrel
              have hce := HCE.out q hq
              have hge6 : ge < w6.heap.size := by omega
              have x0 := (hqb.out.cell (p := ⟨ge, q, none⟩) hge6).trans hce
              obtain ⟨eq1, heq⟩ : ∃ z, eAt (l.map prFx) (q + 1) = z := ⟨_, rfl⟩
              rw [heq] at x0
              have HQ1 := hid heq
              have i1 : (0 : Int) ≤ (q : Int) := Int.natCast_nonneg _
              have i2 : (q : Int) < (l.length : Int) := by omega
              clear hce heq
              by_cases hle : eq1 ≤ p
              · have dle : decide ((eq1 : Int) ≤ (p : Int)) = true := by simp; omega
                have hq2 : q + 1 < l.length := by
                  rcases Nat.lt_or_ge (q + 1) l.length with h | h
                  · exact h
                  · have e : q + 1 = l.length := by omega
                    have h1 := HQ1.out
                    rw [e, HAT.out] at h1
                    omega
                have HQ2 : Hid (eAt (l.map prFx) (q + 1) ≤ p) := hid (by rw [HQ1.out]; exact hle)
                go_wp2_with fail
                go_roundw
                case rel => exact ⟨q + 1, hq2, by go_num, HQ2, hqb⟩
                case measure => simp [intOf]; omega
              · have dle : decide ((eq1 : Int) ≤ (p : Int)) = false := by simp; omega
                obtain ⟨x, hx⟩ : ∃ x, gFx l q = x := ⟨_, rfl⟩
                have hlq : l[q] = x := by rw [← hx]; simp [gFx, List.getD, hq]
                obtain ⟨hk1, hk3, hp5, hpb, gp, cp, hpe⟩ := HAL.out x (by rw [← hlq]; exact List.getElem_mem hq)
                have q2 : w1.cell? ⟨gl, q * 2 + 1, none⟩ = some (.slice (some ⟨gp, 0, none⟩) x.2.2.length cp) := by
                  rw [HGT.out.row.cellAt _ (by omega), ← hpe, ← hx]; exact (fxCells_get l q hq).2
                have x1 := (hqb.out.cell (p := ⟨gl, q * 2 + 1, none⟩) HGL.out.1).trans (HGL.out.2 _ _ q2)
                have hsu := eAt_succ (l.map prFx) q (by omega)
                have hpq : (l.map prFx)[q]'(by omega) = (x.1, x.2.2) := by simp [hlq, prFx]
                rw [hpq, frB_length, HQ1.out] at hsu
                dsimp only at hsu
                have HLQ := hid hpq
                obtain ⟨s, hs⟩ : ∃ s, eAt (l.map prFx) q = s := ⟨_, rfl⟩
                obtain ⟨ln, hln⟩ : ∃ ln, x.2.2.length = ln := ⟨_, rfl⟩
                rw [hs, hln] at hsu
                rw [hln] at x1 hp5
                have HS0 := hid hs
                have HLN := hid hln
                have hqp' : s ≤ p := by rw [← hs]; exact hqp.out
                have HQP := hid hqp'
                have hEQ := HBEQ.out q hq
                rw [HQ1.out] at hEQ
                clear hx hlq hk1 hk3 hpb hpe q2 hpq hs hln hqp hqp'
                by_cases h127 : ln ≤ 127
                · have e1 : eq1 = s + 8 + ln := by rw [uv_one h127] at hsu; omega
                  obtain ⟨t, ht⟩ : ∃ t : Nat, (eq1 : Int) - (ln : Int) = (t : Int) := ⟨eq1 - ln, by omega⟩
                  have v0 : IntKind.i64.wrap ((eq1 : Int) - (ln : Int)) = (t : Int) := by rw [IntKind.wrap_i64]; omega
                  have v1 : IntKind.i64.wrap ((t : Int) - 8) = (s : Int) := by rw [IntKind.wrap_i64]; omega
                  have d7 : decide ((127 : Int) < (ln : Int)) = false := by simp; omega
                  have HE1 := hid e1
                  have HHT := hid ht
                  clear hsu e1 ht
                  go_wp2_with fail
                  go_quiet (fail)
                  have HGA : Hid (ga < w6.heap.size) := hid (by omega)
                  obtain ⟨W7, hW7⟩ : ∃ W7, wr.drewN nq = W7 := ⟨_, rfl⟩
                  have hb7 : Below w6.heap.size w6 W7 := by rw [← hW7]; exact below_drewN hqb.out _
                  have y0 : W7.cell? ⟨ge, q, none⟩ = some (.int .i64 (eq1 : Int)) := by rw [← hW7]; exact x0
                  have y1 : W7.cell? ⟨gl, q * 2 + 1, none⟩ = some (.slice (some ⟨gp, 0, none⟩) ln cp) := by rw [← hW7]; exact x1
                  have HB7 := hid hb7
                  rw [hW7]
                  clear hW7 hb7 x0 x1 hqb
                  obtain ⟨s2, hs2⟩ : ∃ s2 : Nat, s2 = s + 2 := ⟨_, rfl⟩
                  obtain ⟨t4, ht4⟩ : ∃ t4 : Nat, (eq1 : Int) - 4 = (t4 : Int) := ⟨eq1 - 4, by have := HE1.out; omega⟩
                  obtain ⟨t5, ht5⟩ : ∃ t5 : Nat, (t4 : Int) - (ln : Int) = (t5 : Int) := ⟨t4 - ln, by have := HE1.out; omega⟩
                  have hsb : s ≤ 640 := by have := HE1.out; omega
                  have u0 : IntKind.i64.wrap ((s : Int) + 2) = (s : Int) + 2 := by rw [IntKind.wrap_i64]; omega
                  have u1 : IntKind.i64.wrap ((eq1 : Int) - 4) = (eq1 : Int) - 4 := by rw [IntKind.wrap_i64]; omega
                  have u2 : IntKind.i64.wrap ((eq1 : Int) - 4 - (ln : Int)) = (eq1 : Int) - 4 - (ln : Int) := by rw [IntKind.wrap_i64]; omega
                  by_cases hg1 : s2 < p
                  · have dg1 : decide ((s : Int) + 2 < (p : Int)) = true := by simp; omega
                    by_cases hg2 : p < t5
                    · have dg2 : decide ((p : Int) < (eq1 : Int) - 4 - (ln : Int)) = true := by simp; omega
                      go_wp2_with fail
                      go_quiet (fail)
                      have HBZ := hid (keepS HBE.out (below_drewN HB7.out nq))
                      go_wp2_with fail
                      go_ret
                      exact ⟨rfl, HBZ.out⟩
                    · have dg2 : decide ((p : Int) < (eq1 : Int) - 4 - (ln : Int)) = false := by simp; omega
                      have HOR : Hid (p < s + 3 ∨ eq1 ≤ p + 4 + ln) := hid (by omega)
                      go_wp2_with fail
                      go_quiet (fail)
                      clear y0 y1 u0 u1 u2 dg1 hs2 ht4 ht5 v0 v1 d7
                      try clear v3
                      obtain ⟨W8, hW8⟩ : ∃ W8, W7.drewN nq = W8 := ⟨_, rfl⟩
                      have hb8 : Below w6.heap.size w6 W8 := by rw [← hW8]; exact below_drewN HB7.out _
                      rw [hW8]
                      clear hW8
                      obtain ⟨z, hz, hz8⟩ : ∃ z : Nat, gz zs p = (z : Int) ∧ z < 256 := ⟨(gz zs p).toNat, by have := HF.out p; omega, by have := HF.out p; omega⟩
                      have hzc : W8.cell? ⟨ga, p, none⟩ = some (.int .u8 (z : Int)) := by
                        rw [hb8.cell (p := ⟨ga, p, none⟩) HGA.out, HB6.out.cell (p := ⟨ga, p, none⟩) hga2, World.ownsRow.cellAt HAW.out p (by have := HNE.out; omega), ← hz]
                        have := HNE.out
                        simp [gz, List.getD, show p < zs.length by omega]
                      have hfz : W8.frozen? ⟨ga, p, none⟩ = false := by
                        rw [hb8.frozen (p := ⟨ga, p, none⟩) HGA.out, HB6.out.frozen (p := ⟨ga, p, none⟩) hga2]
                        exact World.ownsRow.frozenAt HAW.out p
                      have hmc : W8.cell? ⟨mb, mo + 2, none⟩ = some (.int .u8 (k2 : Int)) := (hb8.cell (p := ⟨mb, mo + 2, none⟩) (show mb < w6.heap.size by have := HBE.out.size; omega)).trans m2
                      obtain ⟨r, hr⟩ : ∃ r : Nat, r = k2 % 255 := ⟨_, rfl⟩
                      obtain ⟨r1, hr1⟩ : ∃ r1 : Nat, r1 = r + 1 := ⟨_, rfl⟩
                      have e0 : Int.tmod (k2 : Int) 255 = (r : Int) := by rw [Int.tmod_eq_emod_of_nonneg (by omega)]; omega
                      have e1 : IntKind.u8.wrap (r : Int) = (r : Int) := by rw [IntKind.wrap_u8]; omega
                      have e2 : IntKind.u8.wrap ((r : Int) + 1) = (r1 : Int) := by rw [IntKind.wrap_u8]; omega
                      have e3 : bits BinOp.xor IntKind.u8 (z : Int) (r1 : Int) = ((z ^^^ r1 : Nat) : Int) := u8_xor_nat z r1 hz8 (by omega)
                      obtain ⟨y, hy⟩ : ∃ y : Nat, z ^^^ r1 = y := ⟨_, rfl⟩
                      have hyz : y ≠ z := fun e => by
                        have h1 : z ^^^ (z ^^^ r1) = r1 := by rw [← Nat.xor_assoc, Nat.xor_self, Nat.zero_xor]
                        rw [hy, e, Nat.xor_self] at h1
                        omega
                      have hy8 : y < 256 := by rw [← hy]; exact Nat.xor_lt_two_pow (n := 8) (by omega) (by omega)
                      rw [hy] at e3
                      have i3 : (0 : Int) ≤ (p : Int) := Int.natCast_nonneg _
                      have i4 : (p : Int) < (N : Int) := by omega
                      have HY := hid (And.intro hyz hy8)
                      have HZ := hid hz
                      have HB8 := hid hb8
                      clear hyz hy8 hz hb8 hy hr hr1 hz8 g2
                      go_wp2_with fail
                      go_region
                      obtain ⟨W9, hW9⟩ : ∃ W9, (W8.setCell ⟨ga, p, none⟩ (.int .u8 (y : Int))).drew = W9 := ⟨_, rfl⟩
                      have HX9 : Hid (Below w1.heap.size w1 W9) := hid (by
                        rw [← hW9]
                        have q1 := HB6.out.size
                        have q2 := HB8.out.size
                        exact (((HBL.out.trans (HB6.out.mono (by omega))).trans (HB8.out.mono (by omega))).setCell (p := ⟨ga, p, none⟩) hga _).drew)
                      have HS9 : Hid (Seg W9 (some ⟨ga, 0, none⟩) N (gz (zs.set p (y : Int)))) := hid (by
                        refine .inr ⟨ga, 0, rfl, ?_, fun i hi => ?_⟩
                        · have q1 := HB6.out.size
                          have q2 := HB8.out.size
                          rw [← hW9]; show ga < (W8.setCell ⟨ga, p, none⟩ (.int .u8 (y : Int))).heap.size; simp [World.setCell]; omega
                        · rw [Nat.zero_add, ← hW9]
                          show (W8.setCell ⟨ga, p, none⟩ (.int .u8 (y : Int))).cell? ⟨ga, i, none⟩ = _
                          have hN := HNE.out
                          by_cases hip : i = p
                          · subst hip
                            rw [World.cell?_setCell_same _ _ _ hzc, gz_set_same (by omega)]
                          · rw [World.cell?_setCell_other _ _ _ _ (by simp <;> omega), HB8.out.cell (p := ⟨ga, i, none⟩) HGA.out, HB6.out.cell (p := ⟨ga, i, none⟩) hga2, World.ownsRow.cellAt HAW.out i (by omega), gz_set_other (by omega)]
                            simp [gz, List.getD, show i < zs.length by omega])
                      have hby : Byt (gz (zs.set p (y : Int))) := gz_set_byt HF.out (by have := HY.out; omega)
                      have HBY := hid hby
                      obtain ⟨X, Y, hX, hfd⟩ := bad_set (l.map prFx) zs HZS.out (fun y' hy' => by
                        obtain ⟨x', hx', rfl⟩ := List.mem_map.1 hy'
                        obtain ⟨q1, q2, q3, q4, _⟩ := HAL.out x' hx'
                        exact ⟨q1, q2, by show x'.2.2.length ≤ 4000; omega, q4⟩) q p (by omega) (y : Int) (by have := HY.out; omega) (by have := HY.out; have := HZ.out; omega) (by rw [HS0.out]; exact HQP.out) (by rw [HQ1.out]; omega) (by rw [HS0.out, HQ1.out, HLQ.out]; have := HOR.out; have := HLN.out; simp only; omega)
                      have hap : (l.map prFx).take q = (l.take q).map prFx := (List.map_take).symm
                      rw [hap] at hfd
                      have hW9w : Below w.heap.size w W9 := HB1.out.trans (HX9.out.mono HB1.out.size)
                      have HIM := hid (feedStepC (gz (zs.set p (y : Int))) hby 0 N (by have := HNE.out; omega) W9.heap.size (.slice none 0 0) (some ⟨ga, 0, none⟩) ca (gz (zs.set p (y : Int))) hby w.heap.size aT aS aL aE W9 (by
                        have e : restF (gz (zs.set p (y : Int))) 0 = 0 := by unfold restF; rw [feed0]; simp
                        rw [e]; unfold Own; exact World.ownsRow_nil _ _ _ _) HS9.out (fun i hi => by rw [Nat.zero_add]) (HER.out.below hW9w) hW9w.size)
                      rw [HNE.out] at hfd
                      rw [feed0, Nat.zero_add, hfd] at HIM
                      dsimp only at HIM
                      obtain ⟨R0, hR0⟩ : ∃ R0, restF (gz (zs.set p (y : Int))) N = R0 := ⟨_, rfl⟩
                      rw [hR0] at HIM
                      have HWW := hid hW9w
                      have hcl : l.length ≤ cl := by
                        rcases HGT.out.row.2 with ⟨e, e0⟩ | ⟨g, cap, cur, e, _, _, hnc, _⟩
                        · omega
                        · injection e with _ _ e3; omega
                      have dX : ((X : Int) != 0) = true := by simp; omega
                      have HTK : Hid (FxS w1 (some ⟨gl, 0, none⟩) (l.take q)) := hid (by
                        obtain ⟨y', c', e, s'⟩ := HGT.out.fxs
                        injection e with e1 _ _
                        rw [e1]; exact FxS.take (show FxS w1 y' l from s') q (by omega))
                      rw [hW9]
                      clear hW9 hby hfd hap hW9w hR0 e0 e1 e2 e3 hzc hfz hmc HB8 HS9
                      go_wp2_with fail
                      refine HIM.out.mono ?_
                      rintro e w10 ⟨b10, v10, fv10, lx, rfl, o10, fx10, hl10⟩
                      obtain ⟨a10, c10, rfl, _⟩ := own_seg8 o10
                      obtain ⟨fa10, fc10, rfl, fs10⟩ := fx10.fxs
                      have hlx : lx.map prFx = (l.take q).map prFx := by simpa using hl10.symm
                      obtain ⟨W11, hW11⟩ : ∃ W11, w10.alloc (.cells #[.slice a10 R0 c10, .int .i64 (Y : Int), .int .i64 (X : Int)] 31) = W11 := ⟨_, rfl⟩
                      have b11 : Below w10.heap.size w10 W11 := by rw [← hW11]; exact (Below.refl _ _).alloc (Nat.le_refl _) _
                      have n2' : W11.cell? ⟨w10.heap.size, 2, none⟩ = some (.int .i64 (X : Int)) := by rw [← hW11]; simp
                      have hall : ∀ x ∈ l.take q, DFx x := fun x hx => HAL.out x (List.mem_of_mem_take hx)
                      obtain ⟨bd1, bd2⟩ := fx_bnd2 hall hlx
                      have hlq : (l.take q).length = q := by rw [List.length_take]; omega
                      have hll : lx.length = q := by have := congrArg List.length hlx; simp at this; omega
                      have hb9 : Below w1.heap.size w1 W11 := (HX9.out.trans (b10.mono HX9.out.size)).trans (b11.mono (by have := HX9.out.size; have := b10.size; omega))
                      have hSM := sameFramesC fa10 (some ⟨gl, 0, none⟩) fc10 cl lx (l.take q) W11 (by omega) bd1 (fs10.below b11) (HTK.out.below hb9) hlx bd2
                      rw [hlq] at hSM
                      have HSM := hid hSM
                      have HW11 := hid hW11
                      clear hW11
                      have HEND := hid (HWW.out.trans ((keepS b10 b11).mono HWW.out.size))
                      have i5 : (0 : Int) ≤ (q : Int) := Int.natCast_nonneg _
                      have i6 : (q : Int) ≤ (cl : Int) := by omega
                      clear b10 o10 fx10 hl10 fs10 hlx b11 hall bd1 bd2 hlq hll hb9 hSM HIM HTK
                      go_wp2_with fail
                      rw [HW11.out]
                      clear HW11 n2'
                      refine HSM.out.mono ?_
                      rintro e w12 ⟨rfl, b12⟩
                      have HFIN := hid (HEND.out.trans (b12.mono HEND.out.size))
                      clear b12 HEND HSM
                      go_wp2_with fail
                      go_ret
                      exact ⟨rfl, HFIN.out⟩
                  · have dg1 : decide ((s : Int) + 2 < (p : Int)) = false := by simp; omega
                    have HOR : Hid (p < s + 3 ∨ eq1 ≤ p + 4 + ln) := hid (by omega)
                    go_wp2_with fail
                    go_quiet (fail)
                    clear y0 y1 u0 u1 u2 dg1 hs2 ht4 ht5 v0 v1 d7
                    try clear v3
                    obtain ⟨W8, hW8⟩ : ∃ W8, W7.drewN nq = W8 := ⟨_, rfl⟩
                    have hb8 : Below w6.heap.size w6 W8 := by rw [← hW8]; exact below_drewN HB7.out _
                    rw [hW8]
                    clear hW8
                    obtain ⟨z, hz, hz8⟩ : ∃ z : Nat, gz zs p = (z : Int) ∧ z < 256 := ⟨(gz zs p).toNat, by have := HF.out p; omega, by have := HF.out p; omega⟩
                    have hzc : W8.cell? ⟨ga, p, none⟩ = some (.int .u8 (z : Int)) := by
                      rw [hb8.cell (p := ⟨ga, p, none⟩) HGA.out, HB6.out.cell (p := ⟨ga, p, none⟩) hga2, World.ownsRow.cellAt HAW.out p (by have := HNE.out; omega), ← hz]
                      have := HNE.out
                      simp [gz, List.getD, show p < zs.length by omega]
                    have hfz : W8.frozen? ⟨ga, p, none⟩ = false := by
                      rw [hb8.frozen (p := ⟨ga, p, none⟩) HGA.out, HB6.out.frozen (p := ⟨ga, p, none⟩) hga2]
                      exact World.ownsRow.frozenAt HAW.out p
                    have hmc : W8.cell? ⟨mb, mo + 2, none⟩ = some (.int .u8 (k2 : Int)) := (hb8.cell (p := ⟨mb, mo + 2, none⟩) (show mb < w6.heap.size by have := HBE.out.size; omega)).trans m2
                    obtain ⟨r, hr⟩ : ∃ r : Nat, r = k2 % 255 := ⟨_, rfl⟩
                    obtain ⟨r1, hr1⟩ : ∃ r1 : Nat, r1 = r + 1 := ⟨_, rfl⟩
                    have e0 : Int.tmod (k2 : Int) 255 = (r : Int) := by rw [Int.tmod_eq_emod_of_nonneg (by omega)]; omega
                    have e1 : IntKind.u8.wrap (r : Int) = (r : Int) := by rw [IntKind.wrap_u8]; omega
                    have e2 : IntKind.u8.wrap ((r : Int) + 1) = (r1 : Int) := by rw [IntKind.wrap_u8]; omega
                    have e3 : bits BinOp.xor IntKind.u8 (z : Int) (r1 : Int) = ((z ^^^ r1 : Nat) : Int) := u8_xor_nat z r1 hz8 (by omega)
                    obtain ⟨y, hy⟩ : ∃ y : Nat, z ^^^ r1 = y := ⟨_, rfl⟩
                    have hyz : y ≠ z := fun e => by
                      have h1 : z ^^^ (z ^^^ r1) = r1 := by rw [← Nat.xor_assoc, Nat.xor_self, Nat.zero_xor]
                      rw [hy, e, Nat.xor_self] at h1
                      omega
                    have hy8 : y < 256 := by rw [← hy]; exact Nat.xor_lt_two_pow (n := 8) (by omega) (by omega)
                    rw [hy] at e3
                    have i3 : (0 : Int) ≤ (p : Int) := Int.natCast_nonneg _
                    have i4 : (p : Int) < (N : Int) := by omega
                    have HY := hid (And.intro hyz hy8)
                    have HZ := hid hz
                    have HB8 := hid hb8
                    clear hyz hy8 hz hb8 hy hr hr1 hz8 g2
                    go_wp2_with fail
                    go_region
                    obtain ⟨W9, hW9⟩ : ∃ W9, (W8.setCell ⟨ga, p, none⟩ (.int .u8 (y : Int))).drew = W9 := ⟨_, rfl⟩
                    have HX9 : Hid (Below w1.heap.size w1 W9) := hid (by
                      rw [← hW9]
                      have q1 := HB6.out.size
                      have q2 := HB8.out.size
                      exact (((HBL.out.trans (HB6.out.mono (by omega))).trans (HB8.out.mono (by omega))).setCell (p := ⟨ga, p, none⟩) hga _).drew)
                    have HS9 : Hid (Seg W9 (some ⟨ga, 0, none⟩) N (gz (zs.set p (y : Int)))) := hid (by
                      refine .inr ⟨ga, 0, rfl, ?_, fun i hi => ?_⟩
                      · have q1 := HB6.out.size
                        have q2 := HB8.out.size
                        rw [← hW9]; show ga < (W8.setCell ⟨ga, p, none⟩ (.int .u8 (y : Int))).heap.size; simp [World.setCell]; omega
                      · rw [Nat.zero_add, ← hW9]
                        show (W8.setCell ⟨ga, p, none⟩ (.int .u8 (y : Int))).cell? ⟨ga, i, none⟩ = _
                        have hN := HNE.out
                        by_cases hip : i = p
                        · subst hip
                          rw [World.cell?_setCell_same _ _ _ hzc, gz_set_same (by omega)]
                        · rw [World.cell?_setCell_other _ _ _ _ (by simp <;> omega), HB8.out.cell (p := ⟨ga, i, none⟩) HGA.out, HB6.out.cell (p := ⟨ga, i, none⟩) hga2, World.ownsRow.cellAt HAW.out i (by omega), gz_set_other (by omega)]
                          simp [gz, List.getD, show i < zs.length by omega])
                    have hby : Byt (gz (zs.set p (y : Int))) := gz_set_byt HF.out (by have := HY.out; omega)
                    have HBY := hid hby
                    obtain ⟨X, Y, hX, hfd⟩ := bad_set (l.map prFx) zs HZS.out (fun y' hy' => by
                      obtain ⟨x', hx', rfl⟩ := List.mem_map.1 hy'
                      obtain ⟨q1, q2, q3, q4, _⟩ := HAL.out x' hx'
                      exact ⟨q1, q2, by show x'.2.2.length ≤ 4000; omega, q4⟩) q p (by omega) (y : Int) (by have := HY.out; omega) (by have := HY.out; have := HZ.out; omega) (by rw [HS0.out]; exact HQP.out) (by rw [HQ1.out]; omega) (by rw [HS0.out, HQ1.out, HLQ.out]; have := HOR.out; have := HLN.out; simp only; omega)
                    have hap : (l.map prFx).take q = (l.take q).map prFx := (List.map_take).symm
                    rw [hap] at hfd
                    have hW9w : Below w.heap.size w W9 := HB1.out.trans (HX9.out.mono HB1.out.size)
                    have HIM := hid (feedStepC (gz (zs.set p (y : Int))) hby 0 N (by have := HNE.out; omega) W9.heap.size (.slice none 0 0) (some ⟨ga, 0, none⟩) ca (gz (zs.set p (y : Int))) hby w.heap.size aT aS aL aE W9 (by
                      have e : restF (gz (zs.set p (y : Int))) 0 = 0 := by unfold restF; rw [feed0]; simp
                      rw [e]; unfold Own; exact World.ownsRow_nil _ _ _ _) HS9.out (fun i hi => by rw [Nat.zero_add]) (HER.out.below hW9w) hW9w.size)
                    rw [HNE.out] at hfd
                    rw [feed0, Nat.zero_add, hfd] at HIM
                    dsimp only at HIM
                    obtain ⟨R0, hR0⟩ : ∃ R0, restF (gz (zs.set p (y : Int))) N = R0 := ⟨_, rfl⟩
                    rw [hR0] at HIM
                    have HWW := hid hW9w
                    have hcl : l.length ≤ cl := by
                      rcases HGT.out.row.2 with ⟨e, e0⟩ | ⟨g, cap, cur, e, _, _, hnc, _⟩
                      · omega
                      · injection e with _ _ e3; omega
                    have dX : ((X : Int) != 0) = true := by simp; omega
                    have HTK : Hid (FxS w1 (some ⟨gl, 0, none⟩) (l.take q)) := hid (by
                      obtain ⟨y', c', e, s'⟩ := HGT.out.fxs
                      injection e with e1 _ _
                      rw [e1]; exact FxS.take (show FxS w1 y' l from s') q (by omega))
                    rw [hW9]
                    clear hW9 hby hfd hap hW9w hR0 e0 e1 e2 e3 hzc hfz hmc HB8 HS9
                    go_wp2_with fail
                    refine HIM.out.mono ?_
                    rintro e w10 ⟨b10, v10, fv10, lx, rfl, o10, fx10, hl10⟩
                    obtain ⟨a10, c10, rfl, _⟩ := own_seg8 o10
                    obtain ⟨fa10, fc10, rfl, fs10⟩ := fx10.fxs
                    have hlx : lx.map prFx = (l.take q).map prFx := by simpa using hl10.symm
                    obtain ⟨W11, hW11⟩ : ∃ W11, w10.alloc (.cells #[.slice a10 R0 c10, .int .i64 (Y : Int), .int .i64 (X : Int)] 31) = W11 := ⟨_, rfl⟩
                    have b11 : Below w10.heap.size w10 W11 := by rw [← hW11]; exact (Below.refl _ _).alloc (Nat.le_refl _) _
                    have n2' : W11.cell? ⟨w10.heap.size, 2, none⟩ = some (.int .i64 (X : Int)) := by rw [← hW11]; simp
                    have hall : ∀ x ∈ l.take q, DFx x := fun x hx => HAL.out x (List.mem_of_mem_take hx)
                    obtain ⟨bd1, bd2⟩ := fx_bnd2 hall hlx
                    have hlq : (l.take q).length = q := by rw [List.length_take]; omega
                    have hll : lx.length = q := by have := congrArg List.length hlx; simp at this; omega
                    have hb9 : Below w1.heap.size w1 W11 := (HX9.out.trans (b10.mono HX9.out.size)).trans (b11.mono (by have := HX9.out.size; have := b10.size; omega))
                    have hSM := sameFramesC fa10 (some ⟨gl, 0, none⟩) fc10 cl lx (l.take q) W11 (by omega) bd1 (fs10.below b11) (HTK.out.below hb9) hlx bd2
                    rw [hlq] at hSM
                    have HSM := hid hSM
                    have HW11 := hid hW11
                    clear hW11
                    have HEND := hid (HWW.out.trans ((keepS b10 b11).mono HWW.out.size))
                    have i5 : (0 : Int) ≤ (q : Int) := Int.natCast_nonneg _
                    have i6 : (q : Int) ≤ (cl : Int) := by omega
                    clear b10 o10 fx10 hl10 fs10 hlx b11 hall bd1 bd2 hlq hll hb9 hSM HIM HTK
                    go_wp2_with fail
                    rw [HW11.out]
                    clear HW11 n2'
                    refine HSM.out.mono ?_
                    rintro e w12 ⟨rfl, b12⟩
                    have HFIN := hid (HEND.out.trans (b12.mono HEND.out.size))
                    clear b12 HEND HSM
                    go_wp2_with fail
                    go_ret
                    exact ⟨rfl, HFIN.out⟩
                · have e1 : eq1 = s + 9 + ln := by rw [uv_two (by omega) (by omega)] at hsu; omega
                  obtain ⟨t, ht⟩ : ∃ t : Nat, (eq1 : Int) - (ln : Int) = (t : Int) := ⟨eq1 - ln, by omega⟩
                  obtain ⟨t8, ht8⟩ : ∃ t8 : Nat, (t : Int) - 8 = (t8 : Int) := ⟨t - 8, by omega⟩
                  have v0 : IntKind.i64.wrap ((eq1 : Int) - (ln : Int)) = (t : Int) := by rw [IntKind.wrap_i64]; omega
                  have v1 : IntKind.i64.wrap ((t : Int) - 8) = (t8 : Int) := by rw [IntKind.wrap_i64]; omega
                  have v3 : IntKind.i64.wrap ((t8 : Int) - 1) = (s : Int) := by rw [IntKind.wrap_i64]; omega
                  have d7 : decide ((127 : Int) < (ln : Int)) = true := by simp; omega
                  have HE1 := hid e1
                  have HHT := hid ht
                  clear hsu e1 ht ht8
                  go_wp2_with fail
                  go_quiet (fail)
                  have HGA : Hid (ga < w6.heap.size) := hid (by omega)
                  obtain ⟨W7, hW7⟩ : ∃ W7, wr.drewN nq = W7 := ⟨_, rfl⟩
                  have hb7 : Below w6.heap.size w6 W7 := by rw [← hW7]; exact below_drewN hqb.out _
                  have y0 : W7.cell? ⟨ge, q, none⟩ = some (.int .i64 (eq1 : Int)) := by rw [← hW7]; exact x0
                  have y1 : W7.cell? ⟨gl, q * 2 + 1, none⟩ = some (.slice (some ⟨gp, 0, none⟩) ln cp) := by rw [← hW7]; exact x1
                  have HB7 := hid hb7
                  rw [hW7]
                  clear hW7 hb7 x0 x1 hqb
                  obtain ⟨s2, hs2⟩ : ∃ s2 : Nat, s2 = s + 2 := ⟨_, rfl⟩
                  obtain ⟨t4, ht4⟩ : ∃ t4 : Nat, (eq1 : Int) - 4 = (t4 : Int) := ⟨eq1 - 4, by have := HE1.out; omega⟩
                  obtain ⟨t5, ht5⟩ : ∃ t5 : Nat, (t4 : Int) - (ln : Int) = (t5 : Int) := ⟨t4 - ln, by have := HE1.out; omega⟩
                  have hsb : s ≤ 640 := by have := HE1.out; omega
                  have u0 : IntKind.i64.wrap ((s : Int) + 2) = (s : Int) + 2 := by rw [IntKind.wrap_i64]; omega
                  have u1 : IntKind.i64.wrap ((eq1 : Int) - 4) = (eq1 : Int) - 4 := by rw [IntKind.wrap_i64]; omega
                  have u2 : IntKind.i64.wrap ((eq1 : Int) - 4 - (ln : Int)) = (eq1 : Int) - 4 - (ln : Int) := by rw [IntKind.wrap_i64]; omega
                  by_cases hg1 : s2 < p
                  · have dg1 : decide ((s : Int) + 2 < (p : Int)) = true := by simp; omega
                    by_cases hg2 : p < t5
                    · have dg2 : decide ((p : Int) < (eq1 : Int) - 4 - (ln : Int)) = true := by simp; omega
                      go_wp2_with fail
                      go_quiet (fail)
                      have HBZ := hid (keepS HBE.out (below_drewN HB7.out nq))
                      go_wp2_with fail
                      go_ret
                      exact ⟨rfl, HBZ.out⟩
                    · have dg2 : decide ((p : Int) < (eq1 : Int) - 4 - (ln : Int)) = false := by simp; omega
                      have HOR : Hid (p < s + 3 ∨ eq1 ≤ p + 4 + ln) := hid (by omega)
                      go_wp2_with fail
                      go_quiet (fail)
                      clear y0 y1 u0 u1 u2 dg1 hs2 ht4 ht5 v0 v1 d7
                      try clear v3
                      obtain ⟨W8, hW8⟩ : ∃ W8, W7.drewN nq = W8 := ⟨_, rfl⟩
                      have hb8 : Below w6.heap.size w6 W8 := by rw [← hW8]; exact below_drewN HB7.out _
                      rw [hW8]
                      clear hW8
                      obtain ⟨z, hz, hz8⟩ : ∃ z : Nat, gz zs p = (z : Int) ∧ z < 256 := ⟨(gz zs p).toNat, by have := HF.out p; omega, by have := HF.out p; omega⟩
                      have hzc : W8.cell? ⟨ga, p, none⟩ = some (.int .u8 (z : Int)) := by
                        rw [hb8.cell (p := ⟨ga, p, none⟩) HGA.out, HB6.out.cell (p := ⟨ga, p, none⟩) hga2, World.ownsRow.cellAt HAW.out p (by have := HNE.out; omega), ← hz]
                        have := HNE.out
                        simp [gz, List.getD, show p < zs.length by omega]
                      have hfz : W8.frozen? ⟨ga, p, none⟩ = false := by
                        rw [hb8.frozen (p := ⟨ga, p, none⟩) HGA.out, HB6.out.frozen (p := ⟨ga, p, none⟩) hga2]
                        exact World.ownsRow.frozenAt HAW.out p
                      have hmc : W8.cell? ⟨mb, mo + 2, none⟩ = some (.int .u8 (k2 : Int)) := (hb8.cell (p := ⟨mb, mo + 2, none⟩) (show mb < w6.heap.size by have := HBE.out.size; omega)).trans m2
                      obtain ⟨r, hr⟩ : ∃ r : Nat, r = k2 % 255 := ⟨_, rfl⟩
                      obtain ⟨r1, hr1⟩ : ∃ r1 : Nat, r1 = r + 1 := ⟨_, rfl⟩
                      have e0 : Int.tmod (k2 : Int) 255 = (r : Int) := by rw [Int.tmod_eq_emod_of_nonneg (by omega)]; omega
                      have e1 : IntKind.u8.wrap (r : Int) = (r : Int) := by rw [IntKind.wrap_u8]; omega
                      have e2 : IntKind.u8.wrap ((r : Int) + 1) = (r1 : Int) := by rw [IntKind.wrap_u8]; omega
                      have e3 : bits BinOp.xor IntKind.u8 (z : Int) (r1 : Int) = ((z ^^^ r1 : Nat) : Int) := u8_xor_nat z r1 hz8 (by omega)
                      obtain ⟨y, hy⟩ : ∃ y : Nat, z ^^^ r1 = y := ⟨_, rfl⟩
                      have hyz : y ≠ z := fun e => by
                        have h1 : z ^^^ (z ^^^ r1) = r1 := by rw [← Nat.xor_assoc, Nat.xor_self, Nat.zero_xor]
                        rw [hy, e, Nat.xor_self] at h1
                        omega
                      have hy8 : y < 256 := by rw [← hy]; exact Nat.xor_lt_two_pow (n := 8) (by omega) (by omega)
                      rw [hy] at e3
                      have i3 : (0 : Int) ≤ (p : Int) := Int.natCast_nonneg _
                      have i4 : (p : Int) < (N : Int) := by omega
                      have HY := hid (And.intro hyz hy8)
                      have HZ := hid hz
                      have HB8 := hid hb8
                      clear hyz hy8 hz hb8 hy hr hr1 hz8 g2
                      go_wp2_with fail
                      go_region
                      obtain ⟨W9, hW9⟩ : ∃ W9, (W8.setCell ⟨ga, p, none⟩ (.int .u8 (y : Int))).drew = W9 := ⟨_, rfl⟩
                      have HX9 : Hid (Below w1.heap.size w1 W9) := hid (by
                        rw [← hW9]
                        have q1 := HB6.out.size
                        have q2 := HB8.out.size
                        exact (((HBL.out.trans (HB6.out.mono (by omega))).trans (HB8.out.mono (by omega))).setCell (p := ⟨ga, p, none⟩) hga _).drew)
                      have HS9 : Hid (Seg W9 (some ⟨ga, 0, none⟩) N (gz (zs.set p (y : Int)))) := hid (by
                        refine .inr ⟨ga, 0, rfl, ?_, fun i hi => ?_⟩
                        · have q1 := HB6.out.size
                          have q2 := HB8.out.size
                          rw [← hW9]; show ga < (W8.setCell ⟨ga, p, none⟩ (.int .u8 (y : Int))).heap.size; simp [World.setCell]; omega
                        · rw [Nat.zero_add, ← hW9]
                          show (W8.setCell ⟨ga, p, none⟩ (.int .u8 (y : Int))).cell? ⟨ga, i, none⟩ = _
                          have hN := HNE.out
                          by_cases hip : i = p
                          · subst hip
                            rw [World.cell?_setCell_same _ _ _ hzc, gz_set_same (by omega)]
                          · rw [World.cell?_setCell_other _ _ _ _ (by simp <;> omega), HB8.out.cell (p := ⟨ga, i, none⟩) HGA.out, HB6.out.cell (p := ⟨ga, i, none⟩) hga2, World.ownsRow.cellAt HAW.out i (by omega), gz_set_other (by omega)]
                            simp [gz, List.getD, show i < zs.length by omega])
                      have hby : Byt (gz (zs.set p (y : Int))) := gz_set_byt HF.out (by have := HY.out; omega)
                      have HBY := hid hby
                      obtain ⟨X, Y, hX, hfd⟩ := bad_set (l.map prFx) zs HZS.out (fun y' hy' => by
                        obtain ⟨x', hx', rfl⟩ := List.mem_map.1 hy'
                        obtain ⟨q1, q2, q3, q4, _⟩ := HAL.out x' hx'
                        exact ⟨q1, q2, by show x'.2.2.length ≤ 4000; omega, q4⟩) q p (by omega) (y : Int) (by have := HY.out; omega) (by have := HY.out; have := HZ.out; omega) (by rw [HS0.out]; exact HQP.out) (by rw [HQ1.out]; omega) (by rw [HS0.out, HQ1.out, HLQ.out]; have := HOR.out; have := HLN.out; simp only; omega)
                      have hap : (l.map prFx).take q = (l.take q).map prFx := (List.map_take).symm
                      rw [hap] at hfd
                      have hW9w : Below w.heap.size w W9 := HB1.out.trans (HX9.out.mono HB1.out.size)
                      have HIM := hid (feedStepC (gz (zs.set p (y : Int))) hby 0 N (by have := HNE.out; omega) W9.heap.size (.slice none 0 0) (some ⟨ga, 0, none⟩) ca (gz (zs.set p (y : Int))) hby w.heap.size aT aS aL aE W9 (by
                        have e : restF (gz (zs.set p (y : Int))) 0 = 0 := by unfold restF; rw [feed0]; simp
                        rw [e]; unfold Own; exact World.ownsRow_nil _ _ _ _) HS9.out (fun i hi => by rw [Nat.zero_add]) (HER.out.below hW9w) hW9w.size)
                      rw [HNE.out] at hfd
                      rw [feed0, Nat.zero_add, hfd] at HIM
                      dsimp only at HIM
                      obtain ⟨R0, hR0⟩ : ∃ R0, restF (gz (zs.set p (y : Int))) N = R0 := ⟨_, rfl⟩
                      rw [hR0] at HIM
                      have HWW := hid hW9w
                      have hcl : l.length ≤ cl := by
                        rcases HGT.out.row.2 with ⟨e, e0⟩ | ⟨g, cap, cur, e, _, _, hnc, _⟩
                        · omega
                        · injection e with _ _ e3; omega
                      have dX : ((X : Int) != 0) = true := by simp; omega
                      have HTK : Hid (FxS w1 (some ⟨gl, 0, none⟩) (l.take q)) := hid (by
                        obtain ⟨y', c', e, s'⟩ := HGT.out.fxs
                        injection e with e1 _ _
                        rw [e1]; exact FxS.take (show FxS w1 y' l from s') q (by omega))
                      rw [hW9]
                      clear hW9 hby hfd hap hW9w hR0 e0 e1 e2 e3 hzc hfz hmc HB8 HS9
                      go_wp2_with fail
                      refine HIM.out.mono ?_
                      rintro e w10 ⟨b10, v10, fv10, lx, rfl, o10, fx10, hl10⟩
                      obtain ⟨a10, c10, rfl, _⟩ := own_seg8 o10
                      obtain ⟨fa10, fc10, rfl, fs10⟩ := fx10.fxs
                      have hlx : lx.map prFx = (l.take q).map prFx := by simpa using hl10.symm
                      obtain ⟨W11, hW11⟩ : ∃ W11, w10.alloc (.cells #[.slice a10 R0 c10, .int .i64 (Y : Int), .int .i64 (X : Int)] 31) = W11 := ⟨_, rfl⟩
                      have b11 : Below w10.heap.size w10 W11 := by rw [← hW11]; exact (Below.refl _ _).alloc (Nat.le_refl _) _
                      have n2' : W11.cell? ⟨w10.heap.size, 2, none⟩ = some (.int .i64 (X : Int)) := by rw [← hW11]; simp
                      have hall : ∀ x ∈ l.take q, DFx x := fun x hx => HAL.out x (List.mem_of_mem_take hx)
                      obtain ⟨bd1, bd2⟩ := fx_bnd2 hall hlx
                      have hlq : (l.take q).length = q := by rw [List.length_take]; omega
                      have hll : lx.length = q := by have := congrArg List.length hlx; simp at this; omega
                      have hb9 : Below w1.heap.size w1 W11 := (HX9.out.trans (b10.mono HX9.out.size)).trans (b11.mono (by have := HX9.out.size; have := b10.size; omega))
                      have hSM := sameFramesC fa10 (some ⟨gl, 0, none⟩) fc10 cl lx (l.take q) W11 (by omega) bd1 (fs10.below b11) (HTK.out.below hb9) hlx bd2
                      rw [hlq] at hSM
                      have HSM := hid hSM
                      have HW11 := hid hW11
                      clear hW11
                      have HEND := hid (HWW.out.trans ((keepS b10 b11).mono HWW.out.size))
                      have i5 : (0 : Int) ≤ (q : Int) := Int.natCast_nonneg _
                      have i6 : (q : Int) ≤ (cl : Int) := by omega
                      clear b10 o10 fx10 hl10 fs10 hlx b11 hall bd1 bd2 hlq hll hb9 hSM HIM HTK
                      go_wp2_with fail
                      rw [HW11.out]
                      clear HW11 n2'
                      refine HSM.out.mono ?_
                      rintro e w12 ⟨rfl, b12⟩
                      have HFIN := hid (HEND.out.trans (b12.mono HEND.out.size))
                      clear b12 HEND HSM
                      go_wp2_with fail
                      go_ret
                      exact ⟨rfl, HFIN.out⟩
                  · have dg1 : decide ((s : Int) + 2 < (p : Int)) = false := by simp; omega
                    have HOR : Hid (p < s + 3 ∨ eq1 ≤ p + 4 + ln) := hid (by omega)
                    go_wp2_with fail
                    go_quiet (fail)
                    clear y0 y1 u0 u1 u2 dg1 hs2 ht4 ht5 v0 v1 d7
                    try clear v3
                    obtain ⟨W8, hW8⟩ : ∃ W8, W7.drewN nq = W8 := ⟨_, rfl⟩
                    have hb8 : Below w6.heap.size w6 W8 := by rw [← hW8]; exact below_drewN HB7.out _
                    rw [hW8]
                    clear hW8
                    obtain ⟨z, hz, hz8⟩ : ∃ z : Nat, gz zs p = (z : Int) ∧ z < 256 := ⟨(gz zs p).toNat, by have := HF.out p; omega, by have := HF.out p; omega⟩
                    have hzc : W8.cell? ⟨ga, p, none⟩ = some (.int .u8 (z : Int)) := by
                      rw [hb8.cell (p := ⟨ga, p, none⟩) HGA.out, HB6.out.cell (p := ⟨ga, p, none⟩) hga2, World.ownsRow.cellAt HAW.out p (by have := HNE.out; omega), ← hz]
                      have := HNE.out
                      simp [gz, List.getD, show p < zs.length by omega]
                    have hfz : W8.frozen? ⟨ga, p, none⟩ = false := by
                      rw [hb8.frozen (p := ⟨ga, p, none⟩) HGA.out, HB6.out.frozen (p := ⟨ga, p, none⟩) hga2]
                      exact World.ownsRow.frozenAt HAW.out p
                    have hmc : W8.cell? ⟨mb, mo + 2, none⟩ = some (.int .u8 (k2 : Int)) := (hb8.cell (p := ⟨mb, mo + 2, none⟩) (show mb < w6.heap.size by have := HBE.out.size; omega)).trans m2
                    obtain ⟨r, hr⟩ : ∃ r : Nat, r = k2 % 255 := ⟨_, rfl⟩
                    obtain ⟨r1, hr1⟩ : ∃ r1 : Nat, r1 = r + 1 := ⟨_, rfl⟩
                    have e0 : Int.tmod (k2 : Int) 255 = (r : Int) := by rw [Int.tmod_eq_emod_of_nonneg (by omega)]; omega
                    have e1 : IntKind.u8.wrap (r : Int) = (r : Int) := by rw [IntKind.wrap_u8]; omega
                    have e2 : IntKind.u8.wrap ((r : Int) + 1) = (r1 : Int) := by rw [IntKind.wrap_u8]; omega
                    have e3 : bits BinOp.xor IntKind.u8 (z : Int) (r1 : Int) = ((z ^^^ r1 : Nat) : Int) := u8_xor_nat z r1 hz8 (by omega)
                    obtain ⟨y, hy⟩ : ∃ y : Nat, z ^^^ r1 = y := ⟨_, rfl⟩
                    have hyz : y ≠ z := fun e => by
                      have h1 : z ^^^ (z ^^^ r1) = r1 := by rw [← Nat.xor_assoc, Nat.xor_self, Nat.zero_xor]
                      rw [hy, e, Nat.xor_self] at h1
                      omega
                    have hy8 : y < 256 := by rw [← hy]; exact Nat.xor_lt_two_pow (n := 8) (by omega) (by omega)
                    rw [hy] at e3
                    have i3 : (0 : Int) ≤ (p : Int) := Int.natCast_nonneg _
                    have i4 : (p : Int) < (N : Int) := by omega
                    have HY := hid (And.intro hyz hy8)
                    have HZ := hid hz
                    have HB8 := hid hb8
                    clear hyz hy8 hz hb8 hy hr hr1 hz8 g2
                    go_wp2_with fail
                    go_region
                    obtain ⟨W9, hW9⟩ : ∃ W9, (W8.setCell ⟨ga, p, none⟩ (.int .u8 (y : Int))).drew = W9 := ⟨_, rfl⟩
                    have HX9 : Hid (Below w1.heap.size w1 W9) := hid (by
                      rw [← hW9]
                      have q1 := HB6.out.size
                      have q2 := HB8.out.size
                      exact (((HBL.out.trans (HB6.out.mono (by omega))).trans (HB8.out.mono (by omega))).setCell (p := ⟨ga, p, none⟩) hga _).drew)
                    have HS9 : Hid (Seg W9 (some ⟨ga, 0, none⟩) N (gz (zs.set p (y : Int)))) := hid (by
                      refine .inr ⟨ga, 0, rfl, ?_, fun i hi => ?_⟩
                      · have q1 := HB6.out.size
                        have q2 := HB8.out.size
                        rw [← hW9]; show ga < (W8.setCell ⟨ga, p, none⟩ (.int .u8 (y : Int))).heap.size; simp [World.setCell]; omega
                      · rw [Nat.zero_add, ← hW9]
                        show (W8.setCell ⟨ga, p, none⟩ (.int .u8 (y : Int))).cell? ⟨ga, i, none⟩ = _
                        have hN := HNE.out
                        by_cases hip : i = p
                        · subst hip
                          rw [World.cell?_setCell_same _ _ _ hzc, gz_set_same (by omega)]
                        · rw [World.cell?_setCell_other _ _ _ _ (by simp <;> omega), HB8.out.cell (p := ⟨ga, i, none⟩) HGA.out, HB6.out.cell (p := ⟨ga, i, none⟩) hga2, World.ownsRow.cellAt HAW.out i (by omega), gz_set_other (by omega)]
                          simp [gz, List.getD, show i < zs.length by omega])
                    have hby : Byt (gz (zs.set p (y : Int))) := gz_set_byt HF.out (by have := HY.out; omega)
                    have HBY := hid hby
                    obtain ⟨X, Y, hX, hfd⟩ := bad_set (l.map prFx) zs HZS.out (fun y' hy' => by
                      obtain ⟨x', hx', rfl⟩ := List.mem_map.1 hy'
                      obtain ⟨q1, q2, q3, q4, _⟩ := HAL.out x' hx'
                      exact ⟨q1, q2, by show x'.2.2.length ≤ 4000; omega, q4⟩) q p (by omega) (y : Int) (by have := HY.out; omega) (by have := HY.out; have := HZ.out; omega) (by rw [HS0.out]; exact HQP.out) (by rw [HQ1.out]; omega) (by rw [HS0.out, HQ1.out, HLQ.out]; have := HOR.out; have := HLN.out; simp only; omega)
                    have hap : (l.map prFx).take q = (l.take q).map prFx := (List.map_take).symm
                    rw [hap] at hfd
                    have hW9w : Below w.heap.size w W9 := HB1.out.trans (HX9.out.mono HB1.out.size)
                    have HIM := hid (feedStepC (gz (zs.set p (y : Int))) hby 0 N (by have := HNE.out; omega) W9.heap.size (.slice none 0 0) (some ⟨ga, 0, none⟩) ca (gz (zs.set p (y : Int))) hby w.heap.size aT aS aL aE W9 (by
                      have e : restF (gz (zs.set p (y : Int))) 0 = 0 := by unfold restF; rw [feed0]; simp
                      rw [e]; unfold Own; exact World.ownsRow_nil _ _ _ _) HS9.out (fun i hi => by rw [Nat.zero_add]) (HER.out.below hW9w) hW9w.size)
                    rw [HNE.out] at hfd
                    rw [feed0, Nat.zero_add, hfd] at HIM
                    dsimp only at HIM
                    obtain ⟨R0, hR0⟩ : ∃ R0, restF (gz (zs.set p (y : Int))) N = R0 := ⟨_, rfl⟩
                    rw [hR0] at HIM
                    have HWW := hid hW9w
                    have hcl : l.length ≤ cl := by
                      rcases HGT.out.row.2 with ⟨e, e0⟩ | ⟨g, cap, cur, e, _, _, hnc, _⟩
                      · omega
                      · injection e with _ _ e3; omega
                    have dX : ((X : Int) != 0) = true := by simp; omega
                    have HTK : Hid (FxS w1 (some ⟨gl, 0, none⟩) (l.take q)) := hid (by
                      obtain ⟨y', c', e, s'⟩ := HGT.out.fxs
                      injection e with e1 _ _
                      rw [e1]; exact FxS.take (show FxS w1 y' l from s') q (by omega))
                    rw [hW9]
                    clear hW9 hby hfd hap hW9w hR0 e0 e1 e2 e3 hzc hfz hmc HB8 HS9
                    go_wp2_with fail
                    refine HIM.out.mono ?_
                    rintro e w10 ⟨b10, v10, fv10, lx, rfl, o10, fx10, hl10⟩
                    obtain ⟨a10, c10, rfl, _⟩ := own_seg8 o10
                    obtain ⟨fa10, fc10, rfl, fs10⟩ := fx10.fxs
                    have hlx : lx.map prFx = (l.take q).map prFx := by simpa using hl10.symm
                    obtain ⟨W11, hW11⟩ : ∃ W11, w10.alloc (.cells #[.slice a10 R0 c10, .int .i64 (Y : Int), .int .i64 (X : Int)] 31) = W11 := ⟨_, rfl⟩
                    have b11 : Below w10.heap.size w10 W11 := by rw [← hW11]; exact (Below.refl _ _).alloc (Nat.le_refl _) _
                    have n2' : W11.cell? ⟨w10.heap.size, 2, none⟩ = some (.int .i64 (X : Int)) := by rw [← hW11]; simp
                    have hall : ∀ x ∈ l.take q, DFx x := fun x hx => HAL.out x (List.mem_of_mem_take hx)
                    obtain ⟨bd1, bd2⟩ := fx_bnd2 hall hlx
                    have hlq : (l.take q).length = q := by rw [List.length_take]; omega
                    have hll : lx.length = q := by have := congrArg List.length hlx; simp at this; omega
                    have hb9 : Below w1.heap.size w1 W11 := (HX9.out.trans (b10.mono HX9.out.size)).trans (b11.mono (by have := HX9.out.size; have := b10.size; omega))
                    have hSM := sameFramesC fa10 (some ⟨gl, 0, none⟩) fc10 cl lx (l.take q) W11 (by omega) bd1 (fs10.below b11) (HTK.out.below hb9) hlx bd2
                    rw [hlq] at hSM
                    have HSM := hid hSM
                    have HW11 := hid hW11
                    clear hW11
                    have HEND := hid (HWW.out.trans ((keepS b10 b11).mono HWW.out.size))
                    have i5 : (0 : Int) ≤ (q : Int) := Int.natCast_nonneg _
                    have i6 : (q : Int) ≤ (cl : Int) := by omega
                    clear b10 o10 fx10 hl10 fs10 hlx b11 hall bd1 bd2 hlq hll hb9 hSM HIM HTK
                    go_wp2_with fail
                    rw [HW11.out]
                    clear HW11 n2'
                    refine HSM.out.mono ?_
                    rintro e w12 ⟨rfl, b12⟩
                    have HFIN := hid (HEND.out.trans (b12.mono HEND.out.size))
                    clear b12 HEND HSM
                    go_wp2_with fail
                    go_ret
                    exact ⟨rfl, HFIN.out⟩
    · clear s1 s2 hf1 hf2 hE
      go_enter Tryd.func3, Tryd.ntmps3
      go_wp2_with fail
      go_ret
      exact ⟨rfl, Below.refl _ _⟩
  · clear s1 s2 hf1 hf2 hE
    go_enter Tryd.func3, Tryd.ntmps3
    go_wp2_with fail
    go_ret
    exact ⟨rfl, Below.refl _ _⟩
end Go.Proofs.YtbimcammjohaoabDoor.fnFramed
