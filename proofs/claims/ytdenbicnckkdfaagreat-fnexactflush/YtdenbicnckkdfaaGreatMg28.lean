import Derived.Test.YtdenbicnckkdfaaGreatShelf
import Derived.Test.YtdenbicnckkdfaaGreatMhSpb
import Derived.Lib.SlKeysI
namespace Go.Proofs.YtdenbicnckkdfaaGreat
open Go.ChangeShapes Go.WideShapes Go.ChangeAt Go.RowKit Go.Maps Go.Sort Go.Shelf
set_option linter.unusedVariables false
set_option linter.unusedSimpArgs false

theorem sortsA (m : Nat) : AnyZI.SortsIn Tryz.prog Tryz.sortedA_ren Fence.wide m :=
  ⟨fun blk off cap ss W hH hblk hsz => callsIn_wide.2 (AnyM.slices_Sort_int Tryz.sortA blk off cap ss W hH hblk hsz),
   fun p cap W => callsIn_wide.2 (AnyM.slices_Sort_int_none Tryz.sortA p cap W)⟩

theorem keysC (mb : Option Nat) (W : World) : Calls Tryz.prog 80 #[.map mb] W fun e w' => e = .returned (.func (.func 114) #[] #[.pointer (some ⟨W.heap.size, 0, none⟩)]) ∧ w' = W.alloc (.cells #[.map mb] 84) :=
  (callsIn_wide (n := 5)).1 (AnyZI.keys_in Tryz.keysA Fence.wide 5 trivial rfl mb W)

set_option maxHeartbeats 1000000 in
theorem sortedC {H : Type} (b nn : Nat) (D0 : DataW H) (R : Value → Option (DataW H × List MemPlace)) (w : World) (hown : w.ownsMap Tryz.prog 3 R b nn D0) (hmax : Maps.size D0 ≤ maxLen) (hbytes : Maps.size D0 * 8 ≤ 140737488355328) :
    Calls Tryz.prog 79 #[.func (.func 114) #[] #[.pointer (some ⟨w.heap.size, 0, none⟩)]] (w.alloc (.cells #[.map (some b)] 84)) fun e w' => ∃ (v : Value) (ss : List Int), e = .returned v ∧ ss.Perm (intKeys D0) ∧
      w'.ownsRow (w.heap.size + 1) 3 1 v ss.length ((ss.mergeSort (fun x y => decide (x ≤ y))).map encZ) ∧ Below w.heap.size w w' := by
  have hbl := hown.lt
  have hseq : SeqGives Fence.wide 2 Tryz.prog 114 #[.pointer (some ⟨w.heap.size, 0, none⟩)] encZ (fun ss => ss.Perm (intKeys D0)) (Maps.size D0) (w.alloc (.cells #[.map (some b)] 84)) :=
    AnyZI.keys_gives (ρ := Tryz.keysA_ren) { Tryz.keysA with } Fence.wide _ trivial rfl (by omega) w.heap.size b nn D0 _ (by simp) (by simp) (by
      obtain ⟨es, clock, hb, Ft, hs, hD⟩ := hown
      exact ⟨es, clock, (Below.heap_alloc _ _ b hbl).trans hb, Ft, hs, hD⟩)
  have cS := AnyZI.sorted_in Tryz.sortedA Fence.wide 5 trivial trivial trivial trivial rfl (by omega) (sortsA _) (enters_of Tryz.func113 (by kernel_rfl) rfl) 114 #[.pointer (some ⟨w.heap.size, 0, none⟩)] trivial (enters_of Tryz.func114 (by kernel_rfl) rfl) _ _ hmax hbytes _ hseq
  change CallsIn _ _ Tryz.prog 79 _ _ _ at cS
  refine ((callsIn_wide (n := 5)).1 cS).mono ?_
  rintro e w' ⟨v, ss, rfl, hS, hrow, hnil, hb⟩
  refine ⟨v, ss, rfl, hS, ?_, ((Below.refl _ w).alloc (Nat.le_refl _) _).trans (hb.mono (by simp))⟩
  have e : (w.alloc (.cells #[.map (some b)] 84)).heap.size = w.heap.size + 1 := by simp
  rw [e] at hrow
  exact hrow

def KS (L : Int → List (Int × Int)) : Nat → List Int
  | 0 => []
  | k + 1 => KS L k ++ (if (L (k : Int)).isEmpty then [] else [(k : Int)])

theorem KS_mem (L : Int → List (Int × Int)) (k : Nat) : ∀ x, x ∈ KS L k ↔ (0 ≤ x ∧ x < k ∧ (L x).isEmpty = false) := by
  induction k with
  | zero => intro x; simp [KS]; omega
  | succ k ih =>
    intro x
    simp only [KS, List.mem_append, ih]
    by_cases e : (L (k : Int)).isEmpty = true
    · rw [if_pos e]
      constructor
      · rintro (⟨a, b, c⟩ | h)
        · exact ⟨a, by omega, c⟩
        · simp at h
      · rintro ⟨a, b, c⟩
        refine .inl ⟨a, ?_, c⟩
        rcases Int.lt_or_le x k with h | h
        · exact h
        · have : x = (k : Int) := by omega
          rw [this, e] at c; cases c
    · rw [if_neg e]
      simp only [Bool.not_eq_true] at e
      constructor
      · rintro (⟨a, b, c⟩ | h)
        · exact ⟨a, by omega, c⟩
        · rw [List.mem_singleton] at h; subst h; exact ⟨by omega, by omega, e⟩
      · rintro ⟨a, b, c⟩
        rcases Int.lt_or_le x k with h | h
        · exact .inl ⟨a, h, c⟩
        · exact .inr (List.mem_singleton.2 (by omega))

theorem KS_lt (L : Int → List (Int × Int)) (k : Nat) : (KS L k).Pairwise (fun x y => x < y) := by
  induction k with
  | zero => exact List.Pairwise.nil
  | succ k ih =>
    simp only [KS]
    refine List.pairwise_append.2 ⟨ih, ?_, fun x hx y hy => ?_⟩
    · split
      · exact List.Pairwise.nil
      · exact List.pairwise_singleton _ _
    · have := (KS_mem L k x).1 hx
      split at hy
      · cases hy
      · rw [List.mem_singleton] at hy; omega

theorem KS_len (L : Int → List (Int × Int)) (k : Nat) : (KS L k).length ≤ k := by
  induction k with
  | zero => simp [KS]
  | succ k ih => simp only [KS, List.length_append]; split <;> simp <;> omega

theorem keys_perm {w : World} {bm n : Nat} {D : DataW Value} {G : Int → Value} {L : Int → List (Int × Int)} (h : GrpAt w bm n D G L) (hL : ∀ r, L r ≠ [] → 0 ≤ r ∧ r < 8) : (KS L 8).Perm (intKeys D) ∧ Maps.size D = (KS L 8).length := by
  obtain ⟨es, hD, hpw, _⟩ := h.own.entries (int_keyed Tryz.underlying3)
  obtain ⟨es', hD', hko⟩ := h.own.keysOf
  obtain rfl : es = es' := by rw [hD] at hD'; simpa using hD'
  have key : (KS L 8).Perm (intKeys D) := by
    have hh := h.has'
    rw [hD] at hh ⊢
    refine perm_intKeys hpw (fun p hp => by obtain ⟨v, hv⟩ := hko p hp; obtain ⟨x, _, hx, _⟩ := Maps.keyOf_i64 Tryz.underlying3 hv; exact ⟨x, hx⟩) ((KS_lt L 8).imp (fun h => by omega)) (fun x => ?_)
    have := hh x
    unfold kI at this
    rw [this, KS_mem]
    constructor
    · rintro ⟨_, _, c⟩; rw [c]; rfl
    · intro c
      have c' : (L x).isEmpty = false := by simpa using c
      have := hL x (by intro e; rw [e] at c'; cases c')
      exact ⟨this.1, this.2, c'⟩
  refine ⟨key, ?_⟩
  rw [key.length_eq, hD]
  simp [Maps.size_eq, intKeys]

theorem KS_sorted {L : Int → List (Int × Int)} {ss ks : List Int} (h1 : (KS L 8).Perm ks) (h2 : ss.Perm ks) : ss.mergeSort (fun x y => decide (x ≤ y)) = KS L 8 := by
  rw [mergeSort_of_perm_i (h2.trans h1.symm)]
  refine List.mergeSort_of_pairwise ((KS_lt L 8).imp (fun h => ?_))
  simp; omega

theorem Lk_rep {R F T : Nat → Int} : ∀ k : Nat, okTo R F T k → ∀ r, Lk R F T k r ≠ [] → 0 ≤ r ∧ r < 8
  | 0, _ => fun r h => absurd rfl h
  | k + 1, h => fun r hr => by
    have ho := runOk_iff.1 (h k (by omega)).1
    by_cases e : r = R k
    · subst e; exact ⟨ho.1, ho.2.1⟩
    · have e1 : Lk R F T (k + 1) r = Lk R F T k r := upd_other _ _ e
      rw [e1] at hr
      exact Lk_rep k (fun i hi => h i (by omega)) r hr
end Go.Proofs.YtdenbicnckkdfaaGreat

namespace Go.Proofs.YtdenbicnckkdfaaGreat
open Go.ChangeShapes Go.WideShapes Go.ChangeAt Go.RowKit Go.Maps Go.Sort
set_option linter.unusedVariables false
set_option linter.unusedSimpArgs false

def repB (L : Int → List (Int × Int)) (r : Int) : List Int := uvF 9 r.toNat ++ grpB (L r)

def putK (L : Int → List (Int × Int)) (ks : List Int) : Nat → List Int
  | 0 => []
  | k + 1 => putK L ks k ++ repB L (ks.getD k 0)
def putB (L : Int → List (Int × Int)) : List Int := uvF 9 (KS L 8).length ++ putK L (KS L 8) (KS L 8).length

theorem putK_len {L : Int → List (Int × Int)} (hL : ∀ r, (L r).length ≤ 1000) (ks : List Int) : ∀ k, (putK L ks k).length ≤ 30000 * k
  | 0 => by simp [putK]
  | k + 1 => by
    have := putK_len hL ks k
    have h1 := (uvF_len 9 (ks.getD k 0).toNat).1
    have h2 := grpB_len (L (ks.getD k 0))
    have h3 := hL (ks.getD k 0)
    simp only [putK, repB, List.length_append]
    omega

theorem GrpAt.gr {w w1 : World} {bm n : Nat} {D : DataW Value} {G : Int → Value} {L : Int → List (Int × Int)} (h : GrpAt w bm n D G L) {row : Option Nat} (hg : w.grownBy w1 row) (hr : some bm ≠ row) (hro : ∀ r g, (G r).ownBlock = some g → some g ≠ row) : GrpAt w1 bm n D G L :=
  ⟨h.own.kept hg hr, h.at', h.has', fun r => (h.rows r).kept hg (by
    cases e : (G r).ownBlock with
    | none => exact .inl rfl
    | some g => exact .inr (hro r g e)), h.apart⟩

theorem row_ints {w : World} {B g m cap : Nat} {zs : List Int} (h : w.ownsRow B 3 1 (.slice (some ⟨g, 0, none⟩) m cap) m (zs.map encZ)) (hl : zs.length = m) : ∀ i, i < m → w.cell? ⟨g, i, none⟩ = some (.int .i64 (zs.getD i 0)) := by
  intro i hi
  rw [h.cellAt i (by omega)]
  simp [List.getD, show i < zs.length by omega]

set_option maxRecDepth 100000 in
set_option maxHeartbeats 1000000 in
theorem appendToC {w : World} {bm n : Nat} {D : DataW Value} {G : Int → Value} {L : Int → List (Int × Int)} (hgrp : GrpAt w bm n D G L) (HLen : Hid (∀ r, (L r).length ≤ 1000)) (HSrt : Hid (∀ r, Srt (L r))) (HRep : Hid (∀ r, L r ≠ [] → 0 ≤ r ∧ r < 8)) :
    Calls Tryz.prog 48 #[.map (some bm), .slice none 0 0] w fun e w' => ∃ v, e = .returned v ∧ Own w' w.heap.size v (putB L) ∧ Below w.heap.size w w' := by
  obtain ⟨kp, hsz⟩ := keys_perm hgrp HRep.out
  obtain ⟨ks, hks⟩ : ∃ ks, KS L 8 = ks := ⟨_, rfl⟩
  have HPB : Hid (putB L = uvF 9 ks.length ++ putK L ks ks.length) := by unfold putB; rw [hks]; exact rfl
  have hkl : ks.length ≤ 8 := by rw [← hks]; exact KS_len L 8
  have HMem : Hid (∀ x ∈ ks, 0 ≤ x ∧ x < 8 ∧ L x ≠ []) := fun x hx => by
    rw [← hks] at hx
    have := (KS_mem L 8 x).1 hx
    exact ⟨this.1, by omega, fun e => by rw [e] at this; simp at this⟩
  have HSo : Hid (∀ ss : List Int, ss.Perm (intKeys D) → ss.mergeSort (fun x y => decide (x ≤ y)) = ks ∧ ss.length = ks.length) := fun ss hs => by rw [← hks]; exact ⟨KS_sorted kp hs, by rw [hs.length_eq, ← kp.length_eq]⟩
  rw [hks] at hsz
  clear hks kp
  have hlen := hgrp.own.len Tryz.underlying84
  rw [hsz] at hlen
  have HGRP := hid hgrp
  have HU := uvF_len 9 ks.length
  clear hgrp
  have x0 : IntKind.u64.wrap ((ks.length : Nat) : Int) = (ks.length : Int) := wrapU _ (by omega) (by omega)
  go_enter Tryz.func48, Tryz.ntmps48
  go_wp2_with fail
  refine (appendUv w.heap.size ks.length _ [] w (by omega) (Nat.le_refl _) (by simp) (World.ownsRow_nil _ _ _ _)).mono ?_
  rintro e w2 ⟨v2, rfl, ho2, hb2, hz2⟩
  have HO2 := hid ho2
  have HB2 := hid hb2
  have hbm1 := HGRP.out.own.lt
  have HGR2 := hid (HGRP.out.below hb2)
  clear ho2 hb2 hlen
  go_wp2_with fail
  refine (keysC (some bm) w2).mono ?_
  rintro e w3 ⟨rfl, rfl⟩
  go_wp2_with fail
  refine (sortedC bm n D rawR w2 HGR2.out.own (by rw [hsz]; unfold maxLen; omega) (by rw [hsz]; omega)).mono ?_
  rintro e w4 ⟨v4, ss, rfl, hperm, hrow, hb4⟩
  obtain ⟨hS1, hS2⟩ := HSo.out ss hperm
  rw [hS1, hS2] at hrow
  have hkl2 := hS2
  clear hperm hS1 hS2 HSo
  have ho4 : Own w4 w.heap.size v2 (uvF 9 ks.length) := HO2.out.kept hb4 (fun k hk => (World.ownsRow.lt HO2.out k hk).2)
  have hv2 : ∀ k, v2.ownBlock = some k → w.heap.size ≤ k ∧ k < w2.heap.size := fun k hk => World.ownsRow.lt HO2.out k hk
  have HV2 := hid hv2
  have g4 : GrpAt w4 bm n D G L := HGR2.out.below hb4
  have HG4 := hid g4
  have hGlt : Hid (∀ r g, (G r).ownBlock = some g → g < w.heap.size) := fun r g hg => ((HGRP.out.rows r).lt g hg).2
  have HB4 := hid (HB2.out.trans (hb4.mono (by omega)))
  have z4 : w2.heap.size ≤ w4.heap.size := hb4.size
  have HO4 := hid ho4
  clear hb4 HO2 HB2 HGR2 HGRP g4 ho4 hv2
  rcases hrow.2 with ⟨rfl, e0⟩ | ⟨g, cap, cur, rfl, hbg, hg, hnc, hcm, hcs, htake⟩
  · have HE : Hid (putB L = uvF 9 ks.length) := by show putB L = _; rw [HPB.out, e0]; simp [putK]
    have HROW := hid hrow
    clear hrow
    go_wp2_with fail
    refine wp_loop_rounds 1 ?_; rw [rounds_succ]; go_wp2_with fail
    go_ret
    exact ⟨v2, rfl, by rw [HE.out]; exact HO4.out, HB4.out⟩
  have HC : Hid (∀ i, i < ks.length → w4.cell? ⟨g, i, none⟩ = some (.int .i64 (ks.getD i 0))) := row_ints hrow rfl
  have hgne : some g ≠ v2.ownBlock := fun e => by have := (HV2.out g e.symm).2; omega
  have hgz : g < w4.heap.size := (hrow.lt g rfl).2
  unfold maxLen at hcm
  clear hrow hg hcs htake
  go_wp2_with fail
  go_loopw [1, 16] (fun b' i wr => ∃ (k : Nat) (zs : List Int), k ≤ ks.length ∧ i = .int .i64 k ∧ Hid (Own wr w.heap.size b' zs) ∧ Hid (zs = uvF 9 ks.length ++ putK L ks k) ∧ Hid (Gr w4 wr v2 b') ∧ w4.heap.size ≤ wr.heap.size) (fun _ i _ => ks.length - (intOf i).toNat)
  case atStart => exact ⟨0, _, Nat.zero_le _, rfl, HO4, hid (by simp [putK]), hid (Gr.refl _ _), Nat.le_refl _⟩
  case round =>
    obtain ⟨k, zs, hk, rfl, hown, hzs, hgr, hsz2⟩ := hrel
    by_cases hlt : k < ks.length
    · have hmem := HMem.out (ks.getD k 0) (by simp [List.getD, hlt])
      obtain ⟨m, hm⟩ : ∃ m : Nat, ks.getD k 0 = (m : Int) := ⟨(ks.getD k 0).toNat, by omega⟩
      have hck := hgr.out.g.cell (HC.out k hlt) hgne
      have hzl : zs.length ≤ 10 + 30000 * k := by rw [hzs.out]; have := putK_len HLen.out ks k; simp; omega
      have HPK : Hid (putK L ks (k + 1) = putK L ks k ++ (uvF 9 m ++ grpB (L (m : Int)))) := by show putK L ks k ++ repB L (ks.getD k 0) = _; rw [hm]; rfl
      rw [hm] at hmem hck
      have hm8 : m < 8 := by omega
      have hne0 := hmem.2.2
      have x3 : IntKind.u64.wrap (m : Int) = (m : Int) := wrapU _ (by omega) (by omega)
      clear hmem hm
      go_wp2_with fail
      refine (appendUvG w.heap.size m u1 zs wr (by omega) (by omega) (by omega) hown.out).mono ?_
      rintro e w5 ⟨v5, rfl, ho5, hg5, hz5⟩
      have hgr5 := hgr.out.trans hg5
      have g5 : GrpAt w5 bm n D G L := HG4.out.gr hgr5.g (fun e => by have := (HV2.out _ e.symm).1; omega) (fun r g hg e => by have := (HV2.out _ e.symm).1; have := hGlt.out r g hg; omega)
      have hlk := g5.look (m : Int) (wfI (by omega) (by omega))
      have hrw := g5.rows (m : Int)
      rcases hrw.2 with ⟨_, e0⟩ | ⟨gs, cs, cu, eG, hq1, hq2, hq3, hq4, hq5, hq6⟩
      · exact absurd (List.eq_nil_of_length_eq_zero e0) hne0
      have hgs := hGlt.out (m : Int) gs (by rw [eG]; rfl)
      rw [eG] at hlk hrw
      have hss := ss_own hrw rfl
      have hgsne : some gs ≠ v5.ownBlock := fun e => by
        rcases hgr5.l with h | ⟨j, h, hj⟩
        · have := (HV2.out gs (h ▸ e.symm)).1; omega
        · rw [h] at e; injection e with e; omega
      have l5 := (uvF_len 9 m).1
      have hsrt := HSrt.out (m : Int)
      have hln := HLen.out (m : Int)
      have HO5 := hid ho5
      have HGR5 := hid hgr5
      have HSS := hid hss
      have HST := hid hsrt
      clear hss hrw g5 ho5 hgr5 hq1 hq2 hq3 hq4 hq5 hq6 hg5 hck hsrt hne0
      go_wp2_with fail
      refine (appendSpans w.heap.size v5 (zs ++ uvF 9 m) (some ⟨gs, 0, none⟩) cs (L (m : Int)) w5 (by omega) (by simp; omega) HO5.out HSS.out (fun x hx => by injection hx with hx; subst hx; exact hgsne) HST.out hln).mono ?_
      rintro e w6 ⟨v6, rfl, ho6, hg6⟩
      have HO6 := hid ho6
      have HGR6 := hid (HGR5.out.trans hg6)
      have hz6 := hg6.g.size
      clear ho6 hg6 hlk
      go_wp2_with fail
      go_roundw
      case rel => exact ⟨k + 1, _, hlt, by go_num, HO6, hid (by rw [HPK.out, hzs.out]; simp), HGR6, by omega⟩
      case measure => simp [intOf]; omega
    · obtain rfl : k = ks.length := by omega
      go_wp2_with fail
      go_ret
      refine ⟨_, rfl, ?_, HB4.out.trans (hgr.out.below (by omega) (fun k hk => by have := (HV2.out k hk).1; omega))⟩
      rw [HPB.out, ← hzs.out]
      exact hown.out
end Go.Proofs.YtdenbicnckkdfaaGreat
