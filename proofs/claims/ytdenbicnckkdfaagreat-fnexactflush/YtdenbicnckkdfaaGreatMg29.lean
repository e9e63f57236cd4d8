import Derived.Test.YtdenbicnckkdfaaGreatMg28
namespace Go.Proofs.YtdenbicnckkdfaaGreat
open Go.ChangeShapes Go.WideShapes Go.ChangeAt Go.RowKit Go.Maps Go.Sort
set_option linter.unusedVariables false
set_option linter.unusedSimpArgs false

theorem cell_three_new (w : World) (x y z : Value) (t : TypeId) : ∀ j u, [x, y, z][j]? = some u → (w.alloc (.cells #[x, y, z] t)).cell? ((⟨w.heap.size, 0, none⟩ : Addr).add j) = some u := by
  intro j u hj
  match j, hj with
  | 0, hj => simp at hj; subst hj; simp [Addr.add]
  | 1, hj => simp at hj; subst hj; simp [Addr.add]
  | 2, hj => simp at hj; subst hj; simp [Addr.add]

def runCells (r : Int) (l : List (Int × Int)) : List Value := l.flatMap fun p => [.int .i64 r, .int .i64 p.1, .int .i64 p.2]
theorem runCells_snoc (r : Int) (l : List (Int × Int)) (p : Int × Int) : runCells r (l ++ [p]) = runCells r l ++ [.int .i64 r, .int .i64 p.1, .int .i64 p.2] := by simp [runCells]

theorem RSeg.at {w : World} {a : Option Addr} {n : Nat} {R F T : Nat → Int} (h : RSeg w a n R F T) {k : Nat} (hk : k < n) : ∃ b off, a = some ⟨b, off, none⟩ ∧ b < w.heap.size ∧ w.cell? ⟨b, off + k * 3, none⟩ = some (.int .i64 (R k)) ∧ w.cell? ⟨b, off + k * 3 + 1, none⟩ = some (.int .i64 (F k)) ∧ w.cell? ⟨b, off + k * 3 + 2, none⟩ = some (.int .i64 (T k)) := by
  rcases h with h | ⟨b, off, rfl, hb, hc⟩
  · omega
  · exact ⟨b, off, rfl, hb, hc k hk⟩

set_option maxRecDepth 100000 in
set_option maxHeartbeats 1000000 in
theorem specOf (a : Option Addr) (n c : Nat) (R F T : Nat → Int) (rep : Int) (w : World) (hn : n ≤ 1048576) (h : RSeg w a n R F T) :
    Calls Tryz.prog 93 #[.agg #[.slice a n c], .int .i64 rep] w fun e w' => ∃ v, e = .returned v ∧ w'.ownsRow w.heap.size 71 3 v (Lk R F T n rep).length (runCells rep (Lk R F T n rep)) ∧ Below w.heap.size w w' := by
  obtain ⟨i0, hi, hz0, hz1, hz2⟩ := info_parts Tryz.infoRun
  obtain ⟨L, hLL⟩ : ∃ L : Nat → List (Int × Int), (fun k => Lk R F T k rep) = L := ⟨_, rfl⟩
  have e0 : Lk R F T n rep = L n := by rw [← hLL]
  have HL0 : Hid (L 0 = []) := by show L 0 = []; rw [← hLL]; rfl
  have HLy : Hid (∀ k, R k = rep → L (k + 1) = L k ++ [(F k, T k)]) := fun k e => by
    rw [← hLL]; show upd _ _ _ _ = _; rw [← e, upd_same]
  have HLn : Hid (∀ k, R k ≠ rep → L (k + 1) = L k) := fun k e => by
    rw [← hLL]; show upd _ _ _ _ = _; rw [upd_other _ _ (fun h => e h.symm)]
  have HLl : Hid (∀ k, (L k).length ≤ k) := fun k => by rw [← hLL]; exact Lk_len R F T k rep
  rw [e0]
  clear e0 hLL
  have hbox : (w.alloc (.cells #[.slice a n c] 34)).cell? ⟨w.heap.size, 0, none⟩ = some (.slice a n c) := by simp
  go_enter Tryz.func93, Tryz.ntmps93
  go_wp2_with fail
  go_loopw [5, 6] (fun v i wr => ∃ k : Nat, k ≤ n ∧ i = .int .i64 k ∧ Hid (wr.ownsRow (w.heap.size + 1) 71 3 v (L k).length (runCells rep (L k))) ∧ Hid (Below w.heap.size w wr) ∧ wr.cell? ⟨w.heap.size, 0, none⟩ = some (.slice a n c) ∧ w.heap.size + 1 ≤ wr.heap.size) (fun _ i _ => n - (intOf i).toNat)
  case atStart =>
    refine ⟨0, Nat.zero_le _, rfl, ?_, hid (below2 _ _ _), by simp, by simp⟩
    rw [HL0.out]
    have := World.ownsRow_lit (base := w.heap.size + 1) (e := 71) (size := 3) (w.alloc (.cells #[.slice a n c] 34)) #[] 0 (by simp) (by unfold maxLen; omega) rfl
    exact hid (by simpa [runCells] using this)
  case round =>
    obtain ⟨k, hk, rfl, hown, hbel, hbx, hsz⟩ := hrel
    by_cases hlt : k < n
    · obtain ⟨b, off, rfl, hb, hc0, hc1, hc2⟩ := (h.below hbel.out).at hlt
      have hlk := HLl.out k
      by_cases he : R k = rep
      · have e1 : (R k == rep) = true := by simp [he]
        have hLk := HLy.out k he
        subst he
        have HN := hid hLk
        have hbne : some w.heap.size ≠ u5.ownBlock := fun e => by have := (hown.out.lt _ e.symm).1; omega
        clear hLk
        go_wp2_with (at_builtin; refine wpList_app_at rfl _ _ 32 rfl (w.heap.size + 1) 71 i0 _ 3 24 Tryz.underlying32 hi hz0 hz1 hz2 rfl (by decide) _ _ _ rfl (hown.out.alloc _) ⟨wr.heap.size, 0, none⟩ 1 1 [.int .i64 (R k), .int .i64 (F k), .int .i64 (T k)] rfl rfl ?c1 ?c2 ?c3 ?c4 ?c5 ?_)
        case c1 => exact cell_three_new _ _ _ _ _
        case c2 => intro u hu; simp at hu; rcases hu with rfl | rfl | rfl <;> rfl
        case c3 => unfold maxLen; omega
        case c4 => omega
        case c5 => simp; omega
        · intro v' w1 hown' hgr hloc
          have R1 : Hid (w1.ownsRow (w.heap.size + 1) 71 3 v' (L (k + 1)).length (runCells (R k) (L (k + 1)))) := by
            rw [HN.out, runCells_snoc, List.length_append]; exact hown'
          have RB : Hid (Below w.heap.size w w1) := (hbel.out.alloc (by omega) _).grown hgr (by simp; omega) (fun k hk => by have := (hown.out.lt k hk).1; omega)
          have RC : w1.cell? ⟨w.heap.size, 0, none⟩ = some (.slice (some ⟨b, off, none⟩) n c) := hgr.cell (by rw [Below.cell (B := wr.heap.size) ((Below.refl _ _).alloc (Nat.le_refl _) _) (show w.heap.size < wr.heap.size by omega)]; exact hbx) hbne
          have RZ := hgr.size
          simp at RZ
          clear hown' hgr hloc hc0 hc1 hc2 hbx
          go_wp2_with fail
          go_roundw
          case rel => exact ⟨k + 1, hlt, by go_num, R1, RB, RC, by omega⟩
          case measure => simp [intOf]; omega
      · have e1 : (R k == rep) = false := by simp [he]
        have hLk := HLn.out k he
        have HN := hid hLk
        clear hLk
        go_wp2_with fail
        go_roundw
        case rel => exact ⟨k + 1, hlt, by go_num, by rw [HN.out]; exact hown, hbel, hbx, hsz⟩
        case measure => simp [intOf]; omega
    · obtain rfl : k = n := by omega
      go_wp2_with fail
      go_ret
      refine ⟨_, rfl, ?_, hbel.out⟩
      obtain ⟨q1, q2⟩ := hown.out
      refine ⟨q1, ?_⟩
      rcases q2 with q2 | ⟨g, cap, cur, rfl, hbg, r⟩
      · exact .inl q2
      · exact .inr ⟨g, cap, cur, rfl, by omega, r⟩

set_option maxRecDepth 100000 in
theorem specPut1 (m : Nat) (w : World) (hm : m ≤ 1000000000) :
    Calls Tryz.prog 94 #[.int .i64 (m : Int)] w fun e w' => ∃ v, e = .returned v ∧ Own w' w.heap.size v (uvF 9 m) ∧ Below w.heap.size w w' ∧ w.heap.size < w'.heap.size := by
  have x3 : IntKind.u64.wrap (m : Int) = (m : Int) := wrapU _ (by omega) (by omega)
  go_enter Tryz.func94, Tryz.ntmps94
  go_wp2_with fail
  refine (specUv 9 m w (Nat.le_refl _) (show m < 128 ^ (9 + 1) by omega) (by omega)).mono ?_
  rintro e w1 ⟨v, rfl, ho, hb, hz⟩
  go_wp2_with fail
  go_ret
  exact ⟨v, rfl, ho, hb, hz⟩
end Go.Proofs.YtdenbicnckkdfaaGreat

namespace Go.Proofs.YtdenbicnckkdfaaGreat
open Go.ChangeShapes Go.WideShapes Go.ChangeAt Go.RowKit Go.Maps Go.Sort
set_option linter.unusedVariables false
set_option linter.unusedSimpArgs false

theorem wp_appB {w : World} {o : Oper} {a : Act} {K : Act → World → Prop} {Q : Exit → Act → World → Prop} (s x : Operand)
    (ho : o.op = .call { callee := .builtin .append, args := #[s, x], argTypes := #[39, 39] })
    (B B' : Nat) (b v : Value) (zs ys : List Int) (hs : a.eval s = b) (hown : Own w B b zs) (hx : a.eval x = v) (hv : Own w B' v ys) (hvn : v.ownBlock ≠ none) (hbn : b.ownBlock ≠ none) (hl : zs.length + ys.length ≤ 1000000000) (hB : B ≤ w.heap.size)
    (h : ∀ v' w', Own w' B v' (zs ++ ys) → Gr w w' b v' → v'.ownBlock ≠ none → K (a.put o.dst v') w') : o.wp Tryz.prog a w K Q := by
  obtain ⟨i0, hi, hz0, hz1, hz2⟩ := info_parts Tryz.infoByte
  have hv' := hv
  obtain ⟨hv1, hv2⟩ := hv
  rcases hv2 with ⟨rfl, _⟩ | ⟨g, cap, cur, rfl, hbg, hg, hn, hm, r⟩
  · exact absurd rfl hvn
  refine wp_app_at s x 39 ho B 5 i0 (.int .u8 0) 1 1 Tryz.underlying39 hi hz0 hz1 hz2 rfl (by decide) b zs.length _ hs hown ⟨g, 0, none⟩ ys.length cap (ys.map (Value.int .u8)) hx (by simp) (World.ownsRow.cells hv' rfl) (ints_oneCell .u8 _) (by unfold maxLen; omega) (by omega) hB ?_
  intro v' w' h1 h2 h3
  refine h v' w' ?_ (Gr.app h2 h3) ?_
  · unfold Own; rw [List.length_append, List.map_append]; exact h1
  · rcases h3 with h3 | h3
    · rw [h3]; exact hbn
    · rw [h3]; simp

theorem wpList_appB {w : World} {ops : Array Oper} {rest : List Oper} {o : Oper} {a : Act} {Q : Exit → Act → World → Prop} (hgd : o.guard = none) (s x : Operand)
    (ho : o.op = .call { callee := .builtin .append, args := #[s, x], argTypes := #[39, 39] })
    (B B' : Nat) (b v : Value) (zs ys : List Int) (hs : a.eval s = b) (hown : Own w B b zs) (hx : a.eval x = v) (hv : Own w B' v ys) (hvn : v.ownBlock ≠ none) (hbn : b.ownBlock ≠ none) (hl : zs.length + ys.length ≤ 1000000000) (hB : B ≤ w.heap.size)
    (h : ∀ v' w', Own w' B v' (zs ++ ys) → Gr w w' b v' → v'.ownBlock ≠ none → wpList Tryz.prog ops Q rest (a.put o.dst v') w') : wpList Tryz.prog ops Q (o :: rest) a w :=
  wpList_plain hgd fun _ hK => wp_appB s x ho B B' b v zs ys hs hown hx hv hvn hbn hl hB fun v' w' h2 h3 h4 => hK _ _ (h v' w' h2 h3 h4)

theorem Own.some {w : World} {B : Nat} {v : Value} {zs : List Int} (h : Own w B v zs) (hz : 0 < zs.length) : v.ownBlock ≠ none := by
  obtain ⟨h1, h2⟩ := h
  rcases h2 with ⟨_, h2⟩ | ⟨g, cap, cur, rfl, _⟩
  · omega
  · simp [Value.ownBlock]

def bodyF (L : Int → List (Int × Int)) (k : Nat) : List Int := (KS L k).flatMap (repB L)
theorem putK_flat (L : Int → List (Int × Int)) (ks : List Int) : ∀ k, k ≤ ks.length → putK L ks k = (ks.take k).flatMap (repB L)
  | 0, _ => by simp [putK]
  | k + 1, h => by
    have e : ks.take (k + 1) = ks.take k ++ [ks.getD k 0] := by
      rw [List.take_add_one]; simp [List.getD, show k < ks.length by omega]
    rw [e, List.flatMap_append, ← putK_flat L ks k (by omega)]
    simp [putK]
theorem putB_eq (L : Int → List (Int × Int)) : putB L = uvF 9 (KS L 8).length ++ bodyF L 8 := by
  unfold putB bodyF; rw [putK_flat L _ _ (Nat.le_refl _), List.take_length]
theorem KS_yes {L : Int → List (Int × Int)} {k : Nat} (h : L (k : Int) ≠ []) : KS L (k + 1) = KS L k ++ [(k : Int)] := by
  have : (L (k : Int)).isEmpty = false := by cases e : L (k : Int) with | nil => exact absurd e h | cons _ _ => rfl
  simp [KS, this]
theorem KS_no {L : Int → List (Int × Int)} {k : Nat} (h : L (k : Int) = []) : KS L (k + 1) = KS L k := by simp [KS, h]
theorem bodyF_yes {L : Int → List (Int × Int)} {k : Nat} (h : L (k : Int) ≠ []) : bodyF L (k + 1) = bodyF L k ++ (uvF 9 k ++ (uvF 9 (L (k : Int)).length ++ spK (L (k : Int)) (L (k : Int)).length)) := by
  unfold bodyF; rw [KS_yes h, List.flatMap_append]; simp [repB, grpB]
theorem bodyF_no {L : Int → List (Int × Int)} {k : Nat} (h : L (k : Int) = []) : bodyF L (k + 1) = bodyF L k := by
  unfold bodyF; rw [KS_no h]
theorem bodyF_len {L : Int → List (Int × Int)} (hL : ∀ r, (L r).length ≤ 1000) : ∀ k, (bodyF L k).length ≤ 30000 * k
  | 0 => by simp [bodyF, KS]
  | k + 1 => by
    have := bodyF_len hL k
    by_cases h : L (k : Int) = []
    · rw [bodyF_no h]; omega
    · have h1 := (uvF_len 9 k).1
      have h2 := (uvF_len 9 (L (k : Int)).length).1
      have h3 := spK_len (L (k : Int)) (L (k : Int)).length
      have h4 := hL (k : Int)
      rw [bodyF_yes h]; simp only [List.length_append]; omega

def lastK (l : List (Int × Int)) (j : Nat) : Int := loK l j - 2

theorem run_at {w : World} {B n cap g : Nat} {r : Int} {l : List (Int × Int)} (h : w.ownsRow B 71 3 (.slice (some ⟨g, 0, none⟩) n cap) n (runCells r l)) (hl : l.length = n) :
    ∀ i, i < n → w.cell? ⟨g, i * 3 + 1, none⟩ = some (.int .i64 (sF l i)) ∧ w.cell? ⟨g, i * 3 + 2, none⟩ = some (.int .i64 (sT l i)) := by
  intro i hi
  have key : ∀ (l : List (Int × Int)) (i : Nat), i < l.length → (runCells r l)[i * 3 + 1]? = some (.int .i64 (l.getD i (0, 0)).1) ∧ (runCells r l)[i * 3 + 2]? = some (.int .i64 (l.getD i (0, 0)).2) := by
    intro l
    induction l with
    | nil => intro i hi; simp at hi
    | cons a l ih =>
      intro i hi
      cases i with
      | zero => simp [runCells]
      | succ i =>
        have := ih i (by simpa using hi)
        have e : runCells r (a :: l) = .int .i64 r :: .int .i64 a.1 :: .int .i64 a.2 :: runCells r l := by simp [runCells]
        rw [e, show (i + 1) * 3 + 1 = i * 3 + 1 + 1 + 1 + 1 from by omega, show (i + 1) * 3 + 2 = i * 3 + 2 + 1 + 1 + 1 from by omega]
        simpa using this
  rw [h.cellAt _ (by omega), h.cellAt _ (by omega)]
  exact key l i (by omega)

set_option maxRecDepth 100000 in
set_option maxHeartbeats 2000000 in
theorem specPut (a : Option Addr) (n c : Nat) (R F T : Nat → Int) (w : World) (hn : n ≤ 1048576) (h : RSeg w a n R F T) (hok : ctxB R F T n = true) :
    Calls Tryz.prog 63 #[.agg #[.slice a n c]] w fun e w' => ∃ v, e = .returned (.tuple #[v, .bool true]) ∧ Own w' w.heap.size v (putB (Lk R F T n)) ∧ Below w.heap.size w w' := by
  have hokT := ctxB_iff.1 hok
  have hn1 := hokT.2
  have B0 : Below w.heap.size w (w.alloc (.cells #[.slice a n c] 34)) := (Below.refl _ _).alloc (Nat.le_refl _) _
  obtain ⟨L, hLL⟩ : ∃ L, Lk R F T n = L := ⟨_, rfl⟩
  have HLen : Hid (∀ r, (L r).length ≤ 1000) := fun r => by rw [← hLL]; exact Nat.le_trans (Lk_len R F T n r) hn1
  have HSrt : Hid (∀ r, Srt (L r)) := fun r => by rw [← hLL]; exact (Lk_srt n hokT.1 r).1
  have HOF : Hid (∀ (rep : Int) (w : World), RSeg w a n R F T → Calls Tryz.prog 93 #[.agg #[.slice a n c], .int .i64 rep] w fun e w' => ∃ v, e = .returned v ∧ w'.ownsRow w.heap.size 71 3 v (L rep).length (runCells rep (L rep)) ∧ Below w.heap.size w w') := fun rep w h => by rw [← hLL]; exact specOf a n c R F T rep w hn h
  rw [hLL]
  clear hokT hLL
  go_enter Tryz.func63, Tryz.ntmps63
  go_wp2_with fail
  refine (specOk a n c R F T _ hn (h.below B0)).mono ?_
  rintro e w1 ⟨rfl, b1⟩
  rw [hok]
  have hbox : w1.cell? ⟨w.heap.size, 0, none⟩ = some (.slice a n c) := by rw [(bcell b1).1 _ _ (by simp)]; simp
  have z1 : w.heap.size + 1 ≤ w1.heap.size := by have := b1.size; simp at this; omega
  have HB1 := hid (keepS B0 b1)
  have HW := hid h
  clear b1 B0 hok h
  go_wp2_with fail
  go_loopw [4, 5, 6] (fun cv b' i wr => ∃ (k : Nat) (zs : List Int), k ≤ 8 ∧ i = .int .i64 k ∧ cv = .int .i64 ((KS L k).length : Nat) ∧ Hid (Own wr (w.heap.size + 1) b' zs) ∧ Hid (zs = bodyF L k) ∧ Hid (Below w.heap.size w wr) ∧ Hid (b'.ownBlock ≠ none) ∧ wr.cell? ⟨w.heap.size, 0, none⟩ = some (.slice a n c) ∧ w.heap.size + 1 ≤ wr.heap.size) (fun _ _ i _ => 8 - (intOf i).toNat)
  case atStart =>
    refine ⟨0, [], by omega, rfl, rfl, ?_, hid rfl, hid (HB1.out.alloc (by omega) _), hid (by simp [Value.ownBlock]), ?_, by simp; omega⟩
    · have := World.ownsRow_lit (base := w.heap.size + 1) (e := 5) (size := 1) w1 #[] 0 (by omega) (by unfold maxLen; omega) rfl
      exact hid (by simpa [Own] using this)
    · rw [Below.cell (B := w1.heap.size) ((Below.refl _ _).alloc (Nat.le_refl _) _) (show w.heap.size < w1.heap.size by omega)]; exact hbox
  case round =>
    obtain ⟨k, zs, hk, rfl, rfl, hown, hzs, hbel, hsome, hbx, hsz⟩ := hrel
    by_cases hlt : k < 8
    · have hkl := KS_len L k
      have hseg := HW.out.below hbel.out
      have HSG := hid hseg
      clear hseg
      go_wp2_with fail
      refine (HOF.out (k : Int) wr HSG.out).mono ?_
      rintro e w2 ⟨v2, rfl, hr2, hb2⟩
      obtain ⟨l, hl⟩ : ∃ l, L (k : Int) = l := ⟨_, rfl⟩
      have hll : l.length ≤ 1000 := by rw [← hl]; exact HLen.out _
      have HAT : Hid (∀ j, j < l.length → 1 ≤ loK l j ∧ loK l j ≤ sF l j ∧ sF l j ≤ sT l j ∧ sT l j ≤ 1000000000) := fun j hj => srt_at (by rw [← hl]; exact HSrt.out _) hj
      have HO2 : Hid (Own w2 (w.heap.size + 1) u5 zs) := hown.out.kept hb2 (fun k hk => (World.ownsRow.lt hown.out k hk).2)
      have HB2 : Hid (Below w.heap.size w w2) := hbel.out.trans (hb2.mono (by omega))
      have hbx2 : w2.cell? ⟨w.heap.size, 0, none⟩ = some (.slice a n c) := by rw [Below.cell hb2 (show w.heap.size < wr.heap.size by omega)]; exact hbx
      have z2 := hb2.size
      have hzl : zs.length ≤ 30000 * k := by rw [hzs.out]; exact bodyF_len HLen.out k
      have HU5 : Hid (∀ g, u5.ownBlock = some g → g < wr.heap.size) := fun g hg => (World.ownsRow.lt hown.out g hg).2
      rw [hl] at hr2
      clear hb2 hown hbel HSG
      by_cases hnil : l = []
      · subst hnil
        have HKS := hid (KS_no hl)
        have HBF := hid (bodyF_no hl)
        clear hl
        rcases hr2.2 with ⟨rfl, _⟩ | ⟨g, cap, cur, rfl, _⟩
        · clear hr2
          go_wp2_with fail
          go_roundw
          case rel => exact ⟨k + 1, zs, hlt, by go_num, by rw [HKS.out], HO2, hid (by rw [HBF.out, hzs.out]), HB2, hsome, hbx2, by omega⟩
          case measure => simp [intOf]; omega
        · clear hr2
          go_wp2_with fail
          go_roundw
          case rel => exact ⟨k + 1, zs, hlt, by go_num, by rw [HKS.out], HO2, hid (by rw [HBF.out, hzs.out]), HB2, hsome, hbx2, by omega⟩
          case measure => simp [intOf]; omega
      · have hl0 : 0 < l.length := List.length_pos_iff.2 hnil
        have HKS := hid (KS_yes (L := L) (k := k) (by rw [hl]; exact hnil))
        have hbf := bodyF_yes (L := L) (k := k) (by rw [hl]; exact hnil)
        rw [hl] at hbf
        have HBF := hid hbf
        rcases hr2.2 with ⟨_, e0⟩ | ⟨g, cap, cur, rfl, hbg, _, hnc, hcm, _, _⟩
        · omega
        have HC := hid (run_at hr2 rfl)
        have hgz : g < w2.heap.size := (hr2.lt g rfl).2
        unfold maxLen at hcm
        have hgu : some g ≠ u5.ownBlock := fun e => by have := HU5.out g e.symm; omega
        have hwu : some w.heap.size ≠ u5.ownBlock := fun e => by have := (World.ownsRow.lt HO2.out _ e.symm).1; omega
        have l3 := uvF_len 9 k
        have l4 := uvF_len 9 l.length
        have e00 : ((l.length : Int) == 0) = false := by simp; omega
        clear hr2 hl hbf hnil
        go_wp2_with fail
        refine (specPut1 k w2 (by omega)).mono ?_
        rintro e w3 ⟨v3, rfl, ho3, hb3, hz3⟩
        have HO3 := hid (HO2.out.kept hb3 (fun k hk => (World.ownsRow.lt HO2.out k hk).2))
        have HV3 := hid ho3
        have HN3 := hid (ho3.some (by omega))
        have HG3 : Hid (Gr w2 w3 u5 u5) := Gr.of_below hb3
        clear ho3 hb3
        go_wp2_with (at_builtin; refine wpList_appB rfl _ _ rfl (w.heap.size + 1) w2.heap.size u5 v3 zs (uvF 9 k) rfl HO3.out rfl HV3.out HN3.out hsome.out ?c1 ?c2 ?_)
        case c1 => omega
        case c2 => omega
        intro v4 w4 ho4 hg4 hn4
        have HG4 := hid (HG3.out.trans hg4)
        have HO4 := hid ho4
        have HN4 := hid hn4
        have z4 := hg4.g.size
        clear ho4 hg4 hn4 HO3 HV3 HN3 HG3
        go_wp2_with fail
        refine (specPut1 l.length w4 (by omega)).mono ?_
        rintro e w5 ⟨v5, rfl, ho5, hb5, hz5⟩
        have HO5 := hid (HO4.out.kept hb5 (fun k hk => (World.ownsRow.lt HO4.out k hk).2))
        have HV5 := hid ho5
        have HN5 := hid (ho5.some (by omega))
        have HG5 : Hid (Gr w4 w5 v4 v4) := Gr.of_below hb5
        clear ho5 hb5
        go_wp2_with (at_builtin; refine wpList_appB rfl _ _ rfl (w.heap.size + 1) w4.heap.size v4 v5 (zs ++ uvF 9 k) (uvF 9 l.length) rfl HO5.out rfl HV5.out HN5.out HN4.out ?d1 ?d2 ?_)
        case d1 => simp; omega
        case d2 => omega
        intro v6 w6 ho6 hg6 hn6
        have HG6 := hid (HG4.out.trans (HG5.out.trans hg6))
        have HO6 := hid ho6
        have HN6 := hid hn6
        have z6 := hg6.g.size
        clear ho6 hg6 hn6 HO5 HV5 HN5 HG5 HO4 HG4 HN4
        go_wp2_with fail
        go_loopw [5, 8, 9] (fun b' la i wr' => ∃ (j : Nat) (zs' : List Int), j ≤ l.length ∧ i = .int .i64 j ∧ la = .int .i64 (lastK l j) ∧ Hid (Own wr' (w.heap.size + 1) b' zs') ∧ Hid (zs' = zs ++ uvF 9 k ++ uvF 9 l.length ++ spK l j) ∧ Hid (Gr w2 wr' u5 b') ∧ Hid (b'.ownBlock ≠ none) ∧ w2.heap.size ≤ wr'.heap.size) (fun _ _ i _ => l.length - (intOf i).toNat)
        case atStart => exact ⟨0, _, Nat.zero_le _, rfl, rfl, HO6, hid (by simp [spK]), HG6, HN6, by omega⟩
        case round =>
          obtain ⟨j, zs', hj, rfl, rfl, hownj, hzsj, hgrj, hsomej, hszj⟩ := hrel
          have hzlj : zs'.length ≤ 240000 + 20 + 20 * j := by
            rw [hzsj.out]
            have := spK_len l j
            simp only [List.length_append]
            omega
          by_cases hlj : j < l.length
          · obtain ⟨q1, q2, q3, q4⟩ := HAT.out j hlj
            have hcF := hgrj.out.g.cell (HC.out j hlj).1 hgu
            have hcT := hgrj.out.g.cell (HC.out j hlj).2 hgu
            have hlk : lastK l j = loK l j - 2 := rfl
            obtain ⟨s1, es1⟩ : ∃ s1 : Int, sF l j - lastK l j = s1 := ⟨_, rfl⟩
            obtain ⟨m1, em1⟩ : ∃ m : Nat, sF l j - loK l j = (m : Int) := ⟨(sF l j - loK l j).toNat, by omega⟩
            obtain ⟨m2, em2⟩ : ∃ m : Nat, sT l j - sF l j = (m : Int) := ⟨(sT l j - sF l j).toNat, by omega⟩
            have x1 : IntKind.i64.wrap (sF l j - lastK l j) = s1 := by rw [es1]; exact wrapIn _ (by omega) (by omega)
            have x2 : IntKind.i64.wrap (s1 - 2) = (m1 : Int) := by rw [show s1 - 2 = (m1 : Int) by omega]; exact wrapIn _ (by omega) (by omega)
            have x3 : IntKind.i64.wrap (sT l j - sF l j) = (m2 : Int) := by rw [em2]; exact wrapIn _ (by omega) (by omega)
            have HSP : Hid (spK l (j + 1) = spK l j ++ (uvF 9 m1 ++ uvF 9 m2)) := by show spK l j ++ _ = _; rw [em1, em2]; rfl
            have HLA : Hid (sT l j = lastK l (j + 1)) := by show sT l j = loK l (j + 1) - 2; show sT l j = sT l j + 2 - 2; omega
            have y1 : m1 ≤ 1000000000 := by omega
            have y2 : m2 ≤ 1000000000 := by omega
            have y3 := uvF_len 9 m1
            have y4 := uvF_len 9 m2
            have hne5 : some g ≠ u5.ownBlock := fun e => by
              rcases hgrj.out.l with h | ⟨i, h, hi⟩
              · exact hgu (e.trans h)
              · rw [h] at e; injection e with e; omega
            clear em1 em2 es1 hlk
            go_wp2_with fail
            refine (specPut1 m1 wr (by omega)).mono ?_
            rintro e w7 ⟨v7, rfl, ho7, hb7, hz7⟩
            have HO7 := hid (hownj.out.kept hb7 (fun k hk => (World.ownsRow.lt hownj.out k hk).2))
            have HV7 := hid ho7
            have HN7 := hid (ho7.some (by omega))
            have HG7 : Hid (Gr wr w7 u5 u5) := Gr.of_below hb7
            clear ho7 hb7
            go_wp2_with (at_builtin; refine wpList_appB rfl _ _ rfl (w.heap.size + 1) wr.heap.size u5 v7 zs' (uvF 9 m1) rfl HO7.out rfl HV7.out HN7.out hsomej.out ?f1 ?f2 ?_)
            case f1 => omega
            case f2 => omega
            intro v8 w8 ho8 hg8 hn8
            have hgs8 := HG7.out.trans hg8
            have hcF8 := hgs8.g.cell hcF hne5
            have hcT8 := hgs8.g.cell hcT hne5
            have hne8 : some g ≠ v8.ownBlock := fun e => by
              rcases hgs8.l with h | ⟨i, h, hi⟩
              · exact hne5 (e.trans h)
              · rw [h] at e; injection e with e; omega
            have HG8 := hid (hgrj.out.trans hgs8)
            have HO8 := hid ho8
            have HN8 := hid hn8
            have z8 := hg8.g.size
            clear ho8 hg8 hn8 HO7 HV7 HN7 HG7 hgs8 hcF hcT x1 x2
            go_wp2_with fail
            refine wp_region_held_drew (S := fun w' => w'.cell? ⟨g, j * 3 + 1, none⟩ = some (.int .i64 (sF l j)) ∧ w'.cell? ⟨g, j * 3 + 2, none⟩ = some (.int .i64 (sT l j))) (by kernel_rfl) ⟨hcF8, hcT8⟩ (fun hHeld => ?_)
            refine take1 (i := 0) (d := some 53) (v := ?_) (by kernel_rfl) (by kernel_rfl) (by kernel_rfl) (by kernel_rfl) (fun _ _ _ h => h) ?_ hHeld ?_
            rotate_left
            · (intro o ho; simp only [List.getElem?_toArray, List.getElem?_cons_succ, List.getElem?_cons_zero, Option.some.injEq] at ho; subst ho; refine Or.inl ⟨by rfl, ?_⟩; intro w hSw; (try dsimp only at hSw); go_simp; try with_reducible rfl)
            try simp only [Act.put, List.setIfInBounds_toArray, List.set_cons_zero, List.set_cons_succ]
            refine take1 (i := 1) (d := some 54) (v := ?_) (by kernel_rfl) (by kernel_rfl) (by kernel_rfl) (by kernel_rfl) (fun _ _ _ h => h) ?_ hHeld ?_
            rotate_left
            · (intro o ho; simp only [List.getElem?_toArray, List.getElem?_cons_succ, List.getElem?_cons_zero, Option.some.injEq] at ho; subst ho; refine Or.inl ⟨by rfl, ?_⟩; intro w hSw; (try dsimp only at hSw); go_simp; try with_reducible rfl)
            try simp only [Act.put, List.setIfInBounds_toArray, List.set_cons_zero, List.set_cons_succ]
            refine take1 (i := 2) (d := some 55) (v := ?_) (by kernel_rfl) (by kernel_rfl) (by kernel_rfl) (by kernel_rfl) (fun _ _ _ h => h) ?_ hHeld ?_
            rotate_left
            · (intro o ho; simp only [List.getElem?_toArray, List.getElem?_cons_succ, List.getElem?_cons_zero, Option.some.injEq] at ho; subst ho; refine Or.inl ⟨by rfl, ?_⟩; intro w hSw; (try dsimp only at hSw); go_simp; try with_reducible rfl)
            try simp only [Act.put, List.setIfInBounds_toArray, List.set_cons_zero, List.set_cons_succ]
            refine take1 (i := 3) (d := some 56) (v := ?_) (by kernel_rfl) (by kernel_rfl) (by kernel_rfl) (by kernel_rfl) (fun _ _ _ h => h) ?_ hHeld ?_
            rotate_left
            · (intro o ho; simp only [List.getElem?_toArray, List.getElem?_cons_succ, List.getElem?_cons_zero, Option.some.injEq] at ho; subst ho; refine Or.inl ⟨by rfl, ?_⟩; intro w hSw; (try dsimp only at hSw); go_simp; try with_reducible rfl)
            try simp only [Act.put, List.setIfInBounds_toArray, List.set_cons_zero, List.set_cons_succ]
            refine take1 (i := 4) (d := some 57) (v := ?_) (by kernel_rfl) (by kernel_rfl) (by kernel_rfl) (by kernel_rfl) (fun _ _ _ h => h) ?_ hHeld ?_
            rotate_left
            · (intro o ho; simp only [List.getElem?_toArray, List.getElem?_cons_succ, List.getElem?_cons_zero, Option.some.injEq] at ho; subst ho; refine Or.inl ⟨by rfl, ?_⟩; intro w hSw; (try dsimp only at hSw); go_simp; try with_reducible rfl)
            try simp only [Act.put, List.setIfInBounds_toArray, List.set_cons_zero, List.set_cons_succ]
            refine take1 (i := 5) (d := some 58) (v := ?_) (by kernel_rfl) (by kernel_rfl) (by kernel_rfl) (by kernel_rfl) (fun _ _ _ h => h) ?_ hHeld ?_
            rotate_left
            · (intro o ho; simp only [List.getElem?_toArray, List.getElem?_cons_succ, List.getElem?_cons_zero, Option.some.injEq] at ho; subst ho; refine Or.inl ⟨by rfl, ?_⟩; intro w hSw; (try dsimp only at hSw); go_simp; try with_reducible rfl)
            try simp only [Act.put, List.setIfInBounds_toArray, List.set_cons_zero, List.set_cons_succ]
            refine take1 (i := 6) (d := some 59) (v := ?_) (by kernel_rfl) (by kernel_rfl) (by kernel_rfl) (by kernel_rfl) (fun _ _ _ h => h) ?_ hHeld ?_
            rotate_left
            · (intro o ho; simp only [List.getElem?_toArray, List.getElem?_cons_succ, List.getElem?_cons_zero, Option.some.injEq] at ho; subst ho; refine Or.inl ⟨by rfl, ?_⟩; intro w hSw; (try dsimp only at hSw); go_simp; try with_reducible rfl)
            try simp only [Act.put, List.setIfInBounds_toArray, List.set_cons_zero, List.set_cons_succ]
            refine take1 (i := 7) (d := some 60) (v := ?_) (by kernel_rfl) (by kernel_rfl) (by kernel_rfl) (by kernel_rfl) (fun _ _ _ h => h) ?_ hHeld ?_
            rotate_left
            · (intro o ho; simp only [List.getElem?_toArray, List.getElem?_cons_succ, List.getElem?_cons_zero, Option.some.injEq] at ho; subst ho; refine Or.inl ⟨by rfl, ?_⟩; intro w hSw; (try dsimp only at hSw); go_simp; try with_reducible rfl)
            try simp only [Act.put, List.setIfInBounds_toArray, List.set_cons_zero, List.set_cons_succ]
            refine take1 (i := 8) (d := some 61) (v := ?_) (by kernel_rfl) (by kernel_rfl) (by kernel_rfl) (by kernel_rfl) (fun _ _ _ h => h) ?_ hHeld ?_
            rotate_left
            · (intro o ho; simp only [List.getElem?_toArray, List.getElem?_cons_succ, List.getElem?_cons_zero, Option.some.injEq] at ho; subst ho; refine Or.inl ⟨by rfl, ?_⟩; intro w hSw; (try dsimp only at hSw); go_simp; try with_reducible rfl)
            try simp only [Act.put, List.setIfInBounds_toArray, List.set_cons_zero, List.set_cons_succ]
            refine take1 (i := 9) (d := some 62) (v := ?_) (by kernel_rfl) (by kernel_rfl) (by kernel_rfl) (by kernel_rfl) (fun _ _ _ h => h) ?_ hHeld ?_
            rotate_left
            · (intro o ho; simp only [List.getElem?_toArray, List.getElem?_cons_succ, List.getElem?_cons_zero, Option.some.injEq] at ho; subst ho; refine Or.inl ⟨by rfl, ?_⟩; intro w hSw; (try dsimp only at hSw); go_simp; try with_reducible rfl)
            try simp only [Act.put, List.setIfInBounds_toArray, List.set_cons_zero, List.set_cons_succ]
            refine take1 (i := 10) (d := some 63) (v := ?_) (by kernel_rfl) (by kernel_rfl) (by kernel_rfl) (by kernel_rfl) (fun _ _ _ h => h) ?_ hHeld ?_
            rotate_left
            · (intro o ho; simp only [List.getElem?_toArray, List.getElem?_cons_succ, List.getElem?_cons_zero, Option.some.injEq] at ho; subst ho; refine Or.inl ⟨by rfl, ?_⟩; intro w hSw; (try dsimp only at hSw); go_simp; try with_reducible rfl)
            try simp only [Act.put, List.setIfInBounds_toArray, List.set_cons_zero, List.set_cons_succ]
            refine take1 (i := 11) (d := some 64) (v := ?_) (by kernel_rfl) (by kernel_rfl) (by kernel_rfl) (by kernel_rfl) (fun _ _ _ h => h) ?_ hHeld ?_
            rotate_left
            · (intro o ho; simp only [List.getElem?_toArray, List.getElem?_cons_succ, List.getElem?_cons_zero, Option.some.injEq] at ho; subst ho; refine Or.inl ⟨by rfl, ?_⟩; intro w hSw; (try dsimp only at hSw); go_simp; try with_reducible rfl)
            try simp only [Act.put, List.setIfInBounds_toArray, List.set_cons_zero, List.set_cons_succ]
            refine call1 (i := 12) (d := some 65) (by kernel_rfl) (by kernel_rfl) ?_
            intro o ho hod K hK; simp only [List.getElem?_toArray, List.getElem?_cons_succ, List.getElem?_cons_zero, Option.some.injEq] at ho; subst ho
            go_simp
            refine (specPut1 m2 _ (by omega)).mono ?_
            rintro e w9 ⟨v9, rfl, ho9, hb9, hz9⟩
            have hb9' : Below w8.heap.size w8 w9 := (Below.refl _ w8).drew.trans hb9
            have HO9 := hid (HO8.out.kept hb9' (fun k hk => (World.ownsRow.lt HO8.out k hk).2))
            have HV9 := hid ho9
            have HN9 := hid (ho9.some (by omega))
            have HG9 : Hid (Gr w8 w9 v8 v8) := Gr.of_below hb9'
            have hcF9 := HG9.out.g.cell hcF8 hne8
            have hcT9 := HG9.out.g.cell hcT8 hne8
            have z9 := hb9'.size
            clear ho9 hb9 hb9'
            refine hK.out _ _ ⟨hcF9, hcT9⟩ (fun hHeld => ?_)
            clear hK K
            try simp only [Act.put, List.setIfInBounds_toArray, List.set_cons_zero, List.set_cons_succ]
            refine call1 (i := 13) (d := some 66) (by kernel_rfl) (by kernel_rfl) ?_
            intro o ho hod K hK; simp only [List.getElem?_toArray, List.getElem?_cons_succ, List.getElem?_cons_zero, Option.some.injEq] at ho; subst ho
            rw [if_pos (by rfl)]
            refine wp_appB _ _ (by rfl) (w.heap.size + 1) w8.heap.size v8 v9 (zs' ++ uvF 9 m1) (uvF 9 m2) (by rfl) HO9.out (by rfl) HV9.out HN9.out HN8.out (by simp; omega) (by omega) ?_
            intro v10 w10 ho10 hg10 hn10
            have hcF10 := hg10.g.cell hcF9 hne8
            have hcT10 := hg10.g.cell hcT9 hne8
            have HG10 := hid (HG8.out.trans (HG9.out.trans hg10))
            have HO10 := hid ho10
            have HN10 := hid hn10
            have z10 := hg10.g.size
            clear ho10 hg10 hn10
            refine hK.out _ _ ⟨hcF10, hcT10⟩ (fun hHeld => ?_)
            clear hK K
            try simp only [Act.put, List.setIfInBounds_toArray, List.set_cons_zero, List.set_cons_succ]
            refine take1 (i := 14) (d := some 5) (v := ?_) (by kernel_rfl) (by kernel_rfl) (by kernel_rfl) (by kernel_rfl) (fun _ _ _ h => h) ?_ hHeld ?_
            rotate_left
            · (intro o ho; simp only [List.getElem?_toArray, List.getElem?_cons_succ, List.getElem?_cons_zero, Option.some.injEq] at ho; subst ho; refine Or.inl ⟨by rfl, ?_⟩; intro w hSw; (try dsimp only at hSw); go_simp; try with_reducible rfl)
            try simp only [Act.put, List.setIfInBounds_toArray, List.set_cons_zero, List.set_cons_succ]
            refine wpAnyH_done (by kernel_rfl) ?_ _
            clear hHeld hcF8 hcT8 hcF9 hcT9 HO9 HV9 HN9 HG9 HO8 HN8 HG8
            go_wp2_with fail
            go_roundw
            case rel => exact ⟨j + 1, _, hlj, by go_num, by rw [HLA.out], HO10, hid (by rw [HSP.out, hzsj.out]; simp), HG10, HN10, by omega⟩
            case measure => simp [intOf]; omega
          · obtain rfl : j = l.length := by omega
            go_wp2_with fail
            go_roundw
            case rel =>
              refine ⟨k + 1, zs', hlt, by go_num, ?_, hownj, hid ?_, hid ?_, hsomej, hgrj.out.g.cell hbx2 hwu, by omega⟩
              · rw [HKS.out]; simp
              · rw [HBF.out, hzsj.out, hzs.out]; simp
              · exact HB2.out.trans (hgrj.out.below (by omega) (fun g hg => by have := (World.ownsRow.lt HO2.out g hg).1; omega))
            case measure => simp [intOf]; omega
    · obtain rfl : k = 8 := by omega
      have hzl : zs.length ≤ 30000 * 8 := by rw [hzs.out]; exact bodyF_len HLen.out 8
      have hkl := KS_len L 8
      have l3 := uvF_len 9 (KS L 8).length
      have HPB := hid (putB_eq L)
      go_wp2_with fail
      refine (specPut1 (KS L 8).length wr (by omega)).mono ?_
      rintro e w3 ⟨v3, rfl, ho3, hb3, hz3⟩
      have HO3 := hid (hown.out.kept hb3 (fun k hk => (World.ownsRow.lt hown.out k hk).2))
      have HV3 := hid ho3
      have HN3 := hid (ho3.some (by omega))
      have HB3 := hid (hbel.out.trans (hb3.mono (by omega)))
      have hlow : Hid (∀ g, v3.ownBlock = some g → wr.heap.size ≤ g) := fun g hg => (World.ownsRow.lt ho3 g hg).1
      clear ho3 hb3
      go_wp2_with (at_builtin; refine wpList_appB rfl _ _ rfl wr.heap.size (w.heap.size + 1) v3 u5 (uvF 9 (KS L 8).length) zs rfl HV3.out rfl HO3.out hsome.out HN3.out ?g1 ?g2 ?_)
      case g1 => omega
      case g2 => omega
      intro v4 w4 ho4 hg4 hn4
      have HG4 := hid hg4
      have HO4 := hid ho4
      clear ho4 hg4 hn4 HO3 HV3
      go_wp2_with fail
      go_ret2
      refine ⟨v4, rfl, ?_, HB3.out.trans (HG4.out.below (by omega) (fun g hg => by have := hlow.out g hg; omega))⟩
      rw [HPB.out, ← hzs.out]
      exact HO4.out.weak (by omega)
end Go.Proofs.YtdenbicnckkdfaaGreat
