import Derived.Test.YthkppnmnjboiaaaDoorFr
import Derived.Test.YthkppnmnjboiaaaDoorSg
import Derived.Test.YthkppnmnjboiaaaDoorGt
import Derived.Test.YthkppnmnjboiaaaDoorSd
import Derived.Test.YthkppnmnjboiaaaDoorFw
import Derived.Test.YthkppnmnjboiaaaDoorChM
namespace Go.Proofs.YthkppnmnjboiaaaDoor
open Go.ChangeShapes Go.WideShapes Go.ChangeAt Go.RowKit
set_option linter.unusedVariables false
set_option linter.unusedSimpArgs false

theorem seg_conv {w : World} {pa : Option Addr} {L : Nat} {f : Nat → Int} (h : Seg w pa L f) (hf : Byt f) : ∀ k cap, (convert 22 9 (.slice pa L cap)).run Tryd.prog (w.drewN k) = .ok (.string (strG f 0 L)) (w.drewN k) := by
  intro k cap
  by_cases h0 : L = 0
  · subst h0
    have e : strG f 0 0 = ⟨#[]⟩ := by simp [strG]
    rw [e]
    cases pa with
    | none =>
      rw [run_convert_bytes_string _ _ _ 5 none 0 cap Tryd.underlying22 Tryd.underlying5 Tryd.underlying9]
      rfl
    | some ad => exact strF_none (w := w.drewN k) ad 0 cap (fun _ => 0)
  · rcases h with h | ⟨b, off, rfl, hb, hc⟩
    · exact absurd h h0
    · exact strG_conv 0 hf (fun i hi => by rw [Nat.zero_add]; exact hc i hi)

set_option maxRecDepth 100000 in
set_option maxHeartbeats 800000 in
theorem sameFramesC (a a' : Option Addr) (c c' : Nat) (l l' : List Fx) (w : World) (hl : l.length ≤ 1048576) (hb : ∀ i, (gFx l i).2.2.length ≤ 1048576) (h : FxS w a l) (h' : FxS w a' l') (he : l.map prFx = l'.map prFx) (hby : ∀ i, Byt (gz (gFx l i).2.2)) :
    Calls Tryd.prog 8 #[.slice a l.length c, .slice a' l'.length c'] w fun e w' => e = .returned (.bool true) ∧ Below w.heap.size w w' := by
  have hll : l'.length = l.length := by have := congrArg List.length he; simpa using this.symm
  rw [hll]
  have HE := hid he
  have HL := hid hb
  have HBy := hid hby
  have HL' := hid hll
  clear he hb hll hby
  obtain ⟨n, hn⟩ : ∃ n, l.length = n := ⟨_, rfl⟩
  have HN := hid hn
  rw [hn] at hl ⊢
  clear hn
  rcases h with h | ⟨g, off, rfl, hg, hc⟩
  · have h0 : n = 0 := by rw [← HN.out]; exact h
    subst h0
    clear h'
    go_enter Tryd.func8, Tryd.ntmps8
    go_wp2
    refine wp_loop_rounds 1 ?_; rw [rounds_succ]; go_wp2
    go_ret
    exact ⟨rfl, Below.refl _ _⟩
  · rcases h' with h' | ⟨g', off', rfl, hg', hc'⟩
    · have h0 : n = 0 := by rw [← HN.out, ← HL'.out]; exact h'
      subst h0
      clear hc
      go_enter Tryd.func8, Tryd.ntmps8
      go_wp2
      refine wp_loop_rounds 1 ?_; rw [rounds_succ]; go_wp2
      go_ret
      exact ⟨rfl, Below.refl _ _⟩
    · have HC := hid hc
      have HC' := hid hc'
      clear hc hc'
      go_enter Tryd.func8, Tryd.ntmps8
      go_wp2
      go_loopw [5] (fun i wr => ∃ k : Nat, k ≤ n ∧ i = .int .i64 k ∧ Below w.heap.size w wr) (fun i _ => n - (intOf i).toNat)
      case atStart => exact ⟨0, Nat.zero_le _, rfl, Below.refl _ _⟩
      case round =>
        obtain ⟨k, hk, rfl, hbel⟩ := hrel
        by_cases hlt : k < n
        · obtain ⟨q1, q2, pa, cap, q3, q4⟩ := HC.out k (by rw [HN.out]; exact hlt)
          obtain ⟨r1, r2, pa', cap', r3, r4⟩ := HC'.out k (by rw [HL'.out, HN.out]; exact hlt)
          obtain ⟨s1, s2⟩ := gFx_pr HE.out (show k < l.length by rw [HN.out]; exact hlt)
          rw [q3] at q2
          rw [r3, ← s2] at r2
          rw [← s1] at r1
          rw [← s2] at r4
          have hbk := HL.out k
          have hyk := HBy.out k
          clear q3 r3 s1 s2
          obtain ⟨kd, hkd⟩ : ∃ kd, (gFx l k).1 = kd := ⟨_, rfl⟩
          obtain ⟨zs, hzs⟩ : ∃ zs, (gFx l k).2.2 = zs := ⟨_, rfl⟩
          rw [hkd] at q1 r1
          rw [hzs] at q2 r2 q4 r4 hbk hyk
          clear hkd hzs
          have u1 := (hbel.cell (p := ⟨g, off + k * 2, none⟩) hg).trans q1
          have u2 := (hbel.cell (p := ⟨g, off + k * 2 + 1, none⟩) hg).trans q2
          have u3 := (hbel.cell (p := ⟨g', off' + k * 2, none⟩) hg').trans r1
          have u4 := (hbel.cell (p := ⟨g', off' + k * 2 + 1, none⟩) hg').trans r2
          have cv1 := seg_conv (q4.below hbel) hyk
          have cv2 := seg_conv (r4.below hbel) hyk
          have HBL := hid hbel
          obtain ⟨S, hS⟩ : ∃ S, strG (gz zs) 0 zs.length = S := ⟨_, rfl⟩
          rw [hS] at cv1 cv2
          have dk : (kd != kd) = false := by simp
          have dS : (S.toList == S.toList) = true := by simp
          have i1 : (0 : Int) ≤ (k : Int) := Int.natCast_nonneg _
          have i2 : (k : Int) < (n : Int) := by omega
          clear q1 q2 q4 r1 r2 r4 hbel hS hyk
          go_wp2
          go_quiet (fail)
          go_wp2
          go_roundw
          case rel => exact ⟨k + 1, hlt, by go_num, below_drewN HBL.out _⟩
          case measure => simp [intOf]; omega
        · obtain rfl : k = n := by omega
          go_wp2
          go_ret
          exact ⟨rfl, hbel⟩
theorem seg_congr8 {w : World} {a : Option Addr} {n : Nat} {f g : Nat → Int} (h : Seg w a n f) (he : ∀ i, i < n → f i = g i) : Seg w a n g := by
  refine h.imp id ?_
  rintro ⟨b, off, e, hb, hc⟩
  exact ⟨b, off, e, hb, fun i hi => by rw [hc i hi, he i hi]⟩
theorem own_seg8 {w : World} {B n : Nat} {v : Value} {f : Nat → Int} (h : Own w B v (payl f n)) : ∃ a c, v = .slice a n c ∧ Seg w a n f := by
  obtain ⟨a, c, e, s⟩ := h.any
  rw [payl_len] at e s
  exact ⟨a, c, e, seg_congr8 s (fun i hi => by simp [payl, List.getD, hi])⟩
theorem payl_congr {f g : Nat → Int} {n : Nat} (h : ∀ i, i < n → f i = g i) : payl f n = payl g n := by
  unfold payl
  exact List.map_congr_left (fun i hi => h i (List.mem_range.1 hi))
theorem gz_app (f f2 : Nat → Int) (n1 n2 i : Nat) (hi : i < n1 + n2) : gz (payl f n1 ++ payl f2 n2) i = if i < n1 then f i else f2 (i - n1) := by
  unfold gz
  by_cases h : i < n1
  · rw [if_pos h, getD_app_l (by rw [payl_len]; exact h)]; simp [payl, List.getD, h]
  · rw [if_neg h, getD_app_r (by rw [payl_len]; omega), payl_len]; simp [payl, List.getD, show i - n1 < n2 by omega]

theorem feedStepC (F : Nat → Int) (hF : Byt F) (q n2 : Nat) (hq : q + n2 ≤ 5000) (B : Nat) (bv : Value) (a2 : Option Addr) (c2 : Nat) (f2 : Nat → Int) (hf2 : Byt f2) (E : Nat) (aT aS aL aE : Addr) (w : World) (hb : Own w B bv (payl (shF F (feedF F q 0).2.1) (restF F q))) (h2 : Seg w a2 n2 f2) (he : ∀ i, i < n2 → f2 i = F (q + i)) (hE : Errs w E aT aS aL aE) (hEB : E ≤ w.heap.size) :
    Calls Tryd.prog 6 #[.agg #[bv, .int .i64 ((feedF F q 0).2.1 : Nat), .int .i64 ((feedF F q 0).1 : Nat)], .slice a2 n2 c2] w fun e w' => Below w.heap.size w w' ∧
      ∃ v fv l, e = .returned (.tuple #[.agg #[v, .int .i64 ((feedF F (q + n2) 0).2.1 : Nat), .int .i64 ((feedF F (q + n2) 0).1 : Nat)], fv]) ∧ Own w' w.heap.size v (payl (shF F (feedF F (q + n2) 0).2.1) (restF F (q + n2))) ∧ FxR w' w.heap.size fv l ∧ (feedF F (q + n2) 0).2.2 = (feedF F q 0).2.2 ++ l.map prFx := by
  have hle := feedF_le F q (q + 1) 0 (by omega) (Nat.zero_le _)
  obtain ⟨ab, cb, rfl, sb⟩ := own_seg8 hb
  by_cases h0 : (feedF F q 0).1 = 0
  · have hr : restF F q = q - (feedF F q 0).2.1 := by unfold restF; rw [if_pos h0]
    rw [hr] at sb ⊢
    rw [h0]
    have hN : q - (feedF F q 0).2.1 + n2 = q + n2 - (feedF F q 0).2.1 := by omega
    have hG : ∀ i, i < q + n2 - (feedF F q 0).2.1 → gz (payl (shF F (feedF F q 0).2.1) (q - (feedF F q 0).2.1) ++ payl f2 n2) i = F ((feedF F q 0).2.1 + i) := fun i hi => by
      rw [gz_app _ _ _ _ _ (by omega)]
      by_cases h : i < q - (feedF F q 0).2.1
      · rw [if_pos h]; rfl
      · rw [if_neg h, he _ (by omega)]; congr 1; omega
    have hS := feed_next (q' := q + n2) (by omega) h0 hG
    have hl2 := feedF_le (gz (payl (shF F (feedF F q 0).2.1) (q - (feedF F q 0).2.1) ++ payl f2 n2)) (q + n2 - (feedF F q 0).2.1) (q + n2 + 1) 0 (by omega) (Nat.zero_le _)
    refine (implFeedG ab (q - (feedF F q 0).2.1) cb a2 n2 c2 (shF F (feedF F q 0).2.1) f2 ((feedF F q 0).2.1 : Nat) E aT aS aL aE w (by omega) (by omega) (shF_byt hF _) hf2 sb h2 hE hEB).mono ?_
    rintro e w' ⟨hbel, v, fv, l, rfl, o, fx, hl, _, _⟩
    rw [hN] at o hl ⊢
    obtain ⟨G, hGe⟩ : ∃ G, gz (payl (shF F (feedF F q 0).2.1) (q - (feedF F q 0).2.1) ++ payl f2 n2) = G := ⟨_, rfl⟩
    rw [hGe] at hS hG hl2 o hl ⊢
    obtain ⟨M, hM⟩ : ∃ M, q + n2 - (feedF F q 0).2.1 = M := ⟨_, rfl⟩
    rw [hM] at hS hG hl2 o hl ⊢
    have hrr : restF F (q + n2) = restF G M := by
      unfold restF; rw [hS]; dsimp only
      by_cases hz : (feedF G M 0).1 = 0
      · rw [if_pos hz, if_pos hz]; omega
      · rw [if_neg hz, if_neg hz]
    have hw : IntKind.i64.wrap (((feedF F q 0).2.1 : Nat) + ((feedF G M 0).2.1 : Nat) : Int) = (((feedF F q 0).2.1 + (feedF G M 0).2.1 : Nat) : Int) := by rw [IntKind.wrap_i64]; omega
    refine ⟨hbel, v, fv, l, ?_, ?_, fx, ?_⟩
    · rw [hw, hS]
    · rw [hrr, hS]
      have hpp : payl (shF G (feedF G M 0).2.1) (restF G M) = payl (shF F ((feedF F q 0).2.1 + (feedF G M 0).2.1)) (restF G M) := payl_congr (fun i hi => by
        unfold restF at hi
        by_cases hz : (feedF G M 0).1 = 0
        · rw [if_pos hz] at hi
          show G ((feedF G M 0).2.1 + i) = F ((feedF F q 0).2.1 + (feedF G M 0).2.1 + i)
          rw [hG _ (by omega), Nat.add_assoc]
        · rw [if_neg hz] at hi; omega)
      rw [← hpp]; exact o
    · rw [hS, hl]
  · have hS := feed_fail (F := F) (q := q) (q' := q + n2) (by omega) h0
    have hr : restF F q = 0 := by unfold restF; rw [if_neg h0]
    have hr2 : restF F (q + n2) = 0 := by unfold restF; rw [hS, if_neg h0]
    rw [hr] at sb ⊢
    refine (implFeedFailG ab 0 cb (shF F (feedF F q 0).2.1) ((feedF F q 0).2.1 : Nat) ((feedF F q 0).1 : Nat) _ w (by omega) (by omega) sb).mono ?_
    rintro e w' ⟨hbel, v, rfl, o⟩
    exact ⟨hbel, v, _, [], by rw [hS], by rw [hr2, hS]; exact o, fxr_nil _ _, by rw [hS]; simp⟩

structure GtR (w : World) (B : Nat) (v : Value) (l : List Fx) : Prop where
  row : w.ownsRow B 41 2 v l.length (fxCells l)
  pay : ∀ i, i < l.length → Own w B (gFx l i).2.1 (gFx l i).2.2
  far : ∀ i, i < l.length → ∀ b, (gFx l i).2.1.ownBlock = some b → v.ownBlock ≠ some b
theorem GtR.kept {w w' : World} {B : Nat} {v : Value} {l : List Fx} (h : GtR w B v l) {row : Option Nat} (hg : w.grownBy w' row) (hr : ∀ k, row = some k → k < B) : GtR w' B v l := by
  refine ⟨World.ownsRow.kept h.row hg ?_, fun i hi => (h.pay i hi).gr hg (fun g e1 e2 => by have := (World.ownsRow.lt (h.pay i hi) g e1).1; have := hr g e2.symm; omega), h.far⟩
  cases e : v.ownBlock with
  | none => exact .inl rfl
  | some g => exact .inr (fun e2 => by have := (World.ownsRow.lt h.row g e).1; have := hr g e2.symm; omega)
theorem GtR.below {w w' : World} {B : Nat} {v : Value} {l : List Fx} (h : GtR w B v l) (hb : Below w.heap.size w w') : GtR w' B v l :=
  h.kept (row := none) ⟨hb.os, hb.tape, hb.output, hb.size, fun k hk _ => hb.block k hk⟩ (by simp)
theorem GtR.fxs {w : World} {B : Nat} {v : Value} {l : List Fx} (h : GtR w B v l) : ∃ a c, v = .slice a l.length c ∧ FxS w a l := by
  rcases h.row.2 with ⟨e, e0⟩ | ⟨g, cap, cur, e, hb, _⟩
  · exact ⟨none, 0, by rw [e, e0], .inl e0⟩
  · refine ⟨_, cap, e, .inr ⟨g, 0, rfl, (World.ownsRow.lt h.row g (by rw [e]; rfl)).2, fun i hi => ?_⟩⟩
    have h1 := h.row
    rw [e] at h1
    obtain ⟨pa, pc, e1, s1⟩ := (h.pay i hi).any
    rw [Nat.zero_add]
    refine ⟨?_, ?_, pa, pc, e1, s1⟩
    · rw [h1.cellAt _ (by omega)]; exact (fxCells_get l i hi).1
    · rw [h1.cellAt _ (by omega)]; exact (fxCells_get l i hi).2
theorem gFx_right {l r : List Fx} {i : Nat} (hi : l.length ≤ i) : gFx (l ++ r) i = gFx r (i - l.length) := by
  simp [gFx, List.getD, List.getElem?_append_right hi]

theorem GtR.app {wr w0 w9 : World} {B : Nat} {gv v9 fv : Value} {lg l : List Fx} (h : GtR wr B gv lg) (hB : B ≤ wr.heap.size) (b0 : Below wr.heap.size wr w0) (hn : FxR w0 wr.heap.size fv l) (gg : w0.grownBy w9 gv.ownBlock)
    (hown : w9.ownsRow B 41 2 v9 (lg.length + l.length) (fxCells lg ++ fxCells l)) (hloc : v9.ownBlock = gv.ownBlock ∨ ∃ k, v9.ownBlock = some k ∧ w0.heap.size ≤ k) : GtR w9 B v9 (lg ++ l) := by
  have h0 := h.below b0
  have z0 := b0.size
  have hold : ∀ i, i < lg.length → ∀ k, (gFx lg i).2.1.ownBlock = some k → k < wr.heap.size := fun i hi k hk => (World.ownsRow.lt (h.pay i hi) k hk).2
  have hnew : ∀ i, i < l.length → ∀ k, (gFx l i).2.1.ownBlock = some k → wr.heap.size ≤ k ∧ k < w0.heap.size := fun i hi k hk => World.ownsRow.lt (hn.pay i hi) k hk
  have hgv : ∀ k, gv.ownBlock = some k → k < wr.heap.size := fun k hk => (World.ownsRow.lt h.row k hk).2
  refine ⟨?_, fun i hi => ?_, fun i hi k hk e => ?_⟩
  · have e : fxCells (lg ++ l) = fxCells lg ++ fxCells l := by simp [fxCells]
    rw [e, List.length_append]; exact hown
  · by_cases h1 : i < lg.length
    · rw [gFx_left h1]
      exact (h0.pay i h1).gr gg (fun g e1 e2 => h.far i h1 g e1 e2.symm)
    · have hi' : i - lg.length < l.length := by rw [List.length_append] at hi; omega
      rw [gFx_right (by omega)]
      exact (own_weak (hn.pay _ hi') hB).gr gg (fun g e1 e2 => by have := (hnew _ hi' g e1).1; have := hgv g e2.symm; omega)
  · by_cases h1 : i < lg.length
    · rw [gFx_left h1] at hk
      rcases hloc with q | ⟨j, q, hj⟩
      · exact h.far i h1 k hk (q ▸ e)
      · rw [q] at e; injection e with e; have := hold i h1 k hk; omega
    · have hi' : i - lg.length < l.length := by rw [List.length_append] at hi; omega
      rw [gFx_right (by omega)] at hk
      have := hnew _ hi' k hk
      rcases hloc with q | ⟨j, q, hj⟩
      · have := hgv k (q ▸ e); omega
      · rw [q] at e; injection e with e; omega
theorem fxCells_len (l : List Fx) : (fxCells l).length = l.length * 2 := by
  induction l with
  | nil => rfl
  | cons a l ih => simp [fxCells] at ih ⊢; omega
theorem fxCells_one {w : World} {B : Nat} {v : Value} {l : List Fx} (h : FxR w B v l) : ∀ u ∈ fxCells l, u.oneCell' = true := by
  intro u hu
  unfold fxCells at hu
  obtain ⟨x, hx, hu⟩ := List.mem_flatMap.1 hu
  obtain ⟨i, hi, rfl⟩ := List.getElem_of_mem hx
  have e : gFx l i = l[i] := by simp [gFx, List.getD, hi]
  obtain ⟨pa, pc, e1, _⟩ := (h.pay i hi).any
  rw [e] at e1
  simp at hu
  rcases hu with rfl | rfl
  · rfl
  · rw [e1]; rfl

theorem wpList_app_fx {w : World} {ops : Array Oper} {rest : List Oper} {o : Oper} {a : Act} {Q : Exit → Act → World → Prop} (hgd : o.guard = none) (s x : Operand)
    (ho : o.op = .call { callee := .builtin .append, args := #[s, x], argTypes := #[26, 26] }) (base : Nat) (v : Value) (n : Nat) (xs : List Value) (hs : a.eval s = v) (hown : w.ownsRow base 41 2 v n xs)
    (B' : Nat) (fv : Value) (l : List Fx) (hx : a.eval x = fv) (hfx : FxR w B' fv l) (h63 : n + l.length ≤ maxLen) (hbytes : (n + l.length) * 32 ≤ 140737488355328) (hbase : base ≤ w.heap.size)
    (h : ∀ v' w', w'.ownsRow base 41 2 v' (n + l.length) (xs ++ fxCells l) → w.grownBy w' v.ownBlock → (v'.ownBlock = v.ownBlock ∨ v'.ownBlock = some w.heap.size) → wpList Tryd.prog ops Q rest (a.put o.dst v') w') : wpList Tryd.prog ops Q (o :: rest) a w := by
  obtain ⟨j0, hj, jz0, jz1, jz2⟩ := info_parts Tryd.infoFrame
  rcases hfx.row.2 with ⟨e, e0⟩ | ⟨g, cap, cur, e, _⟩
  · obtain ⟨b, cap, ev, hle⟩ : ∃ b cap, v = .slice b n cap ∧ n ≤ cap := by
      rcases hown.2 with ⟨e, e0⟩ | ⟨g, cap, cur, e, _, _, hnc, _⟩
      · exact ⟨none, 0, by rw [e, e0], by omega⟩
      · exact ⟨_, cap, e, hnc⟩
    have hl : l = [] := List.eq_nil_of_length_eq_zero e0
    subst hl
    refine wpList_plain hgd fun _ hK => ?_
    unfold Oper.wp execOp
    rw [ev] at hs
    rw [e] at hx
    simp only [ho, resolve, invoke, builtin, Sem.run_bind, Sem.run_pure, Result.andThen_ok, List.map_toArray, List.map_cons, List.map_nil, hs, hx, run_app_none w _ _ _ j0 Tryd.underlying26 hj b n cap 0 hle]
    refine hK _ _ (h _ _ ?_ ⟨rfl, rfl, rfl, Nat.le_refl _, fun _ _ _ => rfl⟩ (.inl (by rw [ev])))
    have e0 : fxCells [] = [] := rfl
    rw [e0, List.append_nil, ← ev]; exact hown
  · have hr := hfx.row
    rw [e] at hr hx
    exact wpList_app_at hgd s x 26 ho base 41 j0 _ 2 32 Tryd.underlying26 hj jz0 jz1 jz2 rfl (by decide) v n xs hs hown ⟨g, 0, none⟩ l.length cap (fxCells l) hx (fxCells_len l) (World.ownsRow.cells hr rfl) (fxCells_one hfx) h63 hbytes hbase h

def qAt (l : List (Value × List Int)) (j : Nat) : Nat := ((l.take j).map (fun x => x.2.length)).sum
theorem qAt_zero (l : List (Value × List Int)) : qAt l 0 = 0 := by simp [qAt]
theorem qAt_succ (l : List (Value × List Int)) (j : Nat) (hj : j < l.length) : qAt l (j + 1) = qAt l j + (l[j]).2.length := by
  unfold qAt
  rw [List.take_succ_eq_append_getElem hj, List.map_append, List.sum_append]
  simp only [List.map_cons, List.map_nil, List.sum_cons, List.sum_nil, Nat.add_zero]
theorem flat_len : ∀ l : List (Value × List Int), (l.map (fun y => y.2)).flatten.length = (l.map (fun x => x.2.length)).sum
  | [] => rfl
  | a :: l => by simp [flat_len l]
theorem qAt_all (l : List (Value × List Int)) : qAt l l.length = ((l.map (fun y => y.2)).flatten).length := by
  rw [flat_len]; unfold qAt; rw [List.take_length]
theorem flat_at (l : List (Value × List Int)) (j : Nat) (hj : j < l.length) : qAt l j + (l[j]).2.length ≤ ((l.map (fun y => y.2)).flatten).length ∧ ∀ i, i < (l[j]).2.length → gz (l[j]).2 i = gz ((l.map (fun y => y.2)).flatten) (qAt l j + i) := by
  have e : l = l.take j ++ l[j] :: l.drop (j + 1) := by
    conv => lhs; rw [← List.take_append_drop j l]
    rw [List.drop_eq_getElem_cons hj]
  have hf : (l.map (fun y => y.2)).flatten = ((l.take j).map (fun y => y.2)).flatten ++ ((l[j]).2 ++ ((l.drop (j + 1)).map (fun y => y.2)).flatten) := by
    conv => lhs; rw [e]
    rw [List.map_append, List.flatten_append, List.map_cons, List.flatten_cons]
  have hq : qAt l j = (((l.take j).map (fun y => y.2)).flatten).length := by rw [flat_len]; rfl
  rw [hf, hq]
  refine ⟨by simp only [List.length_append]; omega, fun i hi => ?_⟩
  unfold gz
  rw [getD_app_r (by omega), Nat.add_sub_cancel_left, getD_app_l hi]
end Go.Proofs.YthkppnmnjboiaaaDoor
