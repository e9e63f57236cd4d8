import Derived.Test.YtakmpmhjcngbbaaGreatDoorShelf
import Derived.Test.YtakmpmhjcngbbaaGreatDoorMgg17
import Derived.Lib.SlKeysI
set_option linter.unusedVariables false
set_option linter.unusedSimpArgs false
set_option maxRecDepth 100000
set_option maxHeartbeats 40000000
namespace Go.Proofs.YtakmpmhjcngbbaaGreatDoor
open Go.ChangeShapes Go.WideShapes Go.ChangeAt Go.RowKit Go.Maps Go.Sort Go.Shelf
theorem sortsA (m : Nat) : AnyZI.SortsIn Tryz.prog Tryz.sortedA_ren Fence.wide m :=
  ⟨fun blk off cap ss W hH hblk hsz => callsIn_wide.2 (AnyM.slices_Sort_int Tryz.sortA blk off cap ss W hH hblk hsz),
   fun p cap W => callsIn_wide.2 (AnyM.slices_Sort_int_none Tryz.sortA p cap W)⟩
theorem keysC (mb : Option Nat) (W : World) : Calls Tryz.prog 56 #[.map mb] W fun e w' => e = .returned (.func (.func 81) #[] #[.pointer (some ⟨W.heap.size, 0, none⟩)]) ∧ w' = W.alloc (.cells #[.map mb] 49) :=
  (callsIn_wide (n := 5)).1 (AnyZI.keys_in Tryz.keysA Fence.wide 5 trivial rfl mb W)
theorem sortedC {H : Type} (b nn : Nat) (D0 : DataW H) (R : Value → Option (DataW H × List MemPlace)) (w : World) (hown : w.ownsMap Tryz.prog 3 R b nn D0) (hmax : Maps.size D0 ≤ maxLen) (hbytes : Maps.size D0 * 8 ≤ 140737488355328) :
    Calls Tryz.prog 55 #[.func (.func 81) #[] #[.pointer (some ⟨w.heap.size, 0, none⟩)]] (w.alloc (.cells #[.map (some b)] 49)) fun e w' => ∃ (v : Value) (ss : List Int), e = .returned v ∧ ss.Perm (intKeys D0) ∧
      w'.ownsRow (w.heap.size + 1) 3 1 v ss.length ((ss.mergeSort (fun x y => decide (x ≤ y))).map encZ) ∧ Below w.heap.size w w' := by
  have hbl := hown.lt
  have hseq : SeqGives Fence.wide 2 Tryz.prog 81 #[.pointer (some ⟨w.heap.size, 0, none⟩)] encZ (fun ss => ss.Perm (intKeys D0)) (Maps.size D0) (w.alloc (.cells #[.map (some b)] 49)) :=
    AnyZI.keys_gives (ρ := Tryz.keysA_ren) { Tryz.keysA with } Fence.wide _ trivial rfl (by omega) w.heap.size b nn D0 _ (by simp) (by simp) (by
      obtain ⟨es, clock, hb, Ft, hs, hD⟩ := hown
      exact ⟨es, clock, (Below.heap_alloc _ _ b hbl).trans hb, Ft, hs, hD⟩)
  have cS := AnyZI.sorted_in Tryz.sortedA Fence.wide 5 trivial trivial trivial trivial rfl (by omega) (sortsA _) (enters_of Tryz.func80 (by kernel_rfl) rfl) 81 #[.pointer (some ⟨w.heap.size, 0, none⟩)] trivial (enters_of Tryz.func81 (by kernel_rfl) rfl) _ _ hmax hbytes _ hseq
  change CallsIn _ _ Tryz.prog 55 _ _ _ at cS
  refine ((callsIn_wide (n := 5)).1 cS).mono ?_
  rintro e w' ⟨v, ss, rfl, hS, hrow, hnil, hb⟩
  refine ⟨v, ss, rfl, hS, ?_, ((Below.refl _ w).alloc (Nat.le_refl _) _).trans (hb.mono (by simp))⟩
  have e : (w.alloc (.cells #[.map (some b)] 49)).heap.size = w.heap.size + 1 := by simp
  rw [e] at hrow
  exact hrow
def KS (L : Int → List (Int × Int)) : Nat → List Int
  | 0 => []
  | k + 1 => KS L k ++ (if (L (k : Int)).isEmpty then [] else [(k : Int)])
theorem KS_mem (L : Int → List (Int × Int)) (k : Nat) : ∀ x, x ∈ KS L k ↔ (0 ≤ x ∧ x < k ∧ (L x).isEmpty = false) := by
  induction k with
  | zero => intro x; simp [KS]; omega
  | succ k ih =>
    intro x
    simp only [KS, List.mem_append, ih]
    by_cases e : (L (k : Int)).isEmpty = true
    · rw [if_pos e]
      constructor
      · rintro (⟨a, b, c⟩ | h)
        · exact ⟨a, by omega, c⟩
        · simp at h
      · rintro ⟨a, b, c⟩
        refine .inl ⟨a, ?_, c⟩
        rcases Int.lt_or_le x k with h | h
        · exact h
        · have : x = (k : Int) := by omega
          rw [this, e] at c; cases c
    · rw [if_neg e]
      simp only [Bool.not_eq_true] at e
      constructor
      · rintro (⟨a, b, c⟩ | h)
        · exact ⟨a, by omega, c⟩
        · rw [List.mem_singleton] at h; subst h; exact ⟨by omega, by omega, e⟩
      · rintro ⟨a, b, c⟩
        rcases Int.lt_or_le x k with h | h
        · exact .inl ⟨a, h, c⟩
        · exact .inr (List.mem_singleton.2 (by omega))
theorem KS_lt (L : Int → List (Int × Int)) (k : Nat) : (KS L k).Pairwise (fun x y => x < y) := by
  induction k with
  | zero => exact List.Pairwise.nil
  | succ k ih =>
    simp only [KS]
    refine List.pairwise_append.2 ⟨ih, ?_, fun x hx y hy => ?_⟩
    · split
      · exact List.Pairwise.nil
      · exact List.pairwise_singleton _ _
    · have := (KS_mem L k x).1 hx
      split at hy
      · cases hy
      · rw [List.mem_singleton] at hy; omega
theorem KS_len (L : Int → List (Int × Int)) (k : Nat) : (KS L k).length ≤ k := by
  induction k with
  | zero => simp [KS]
  | succ k ih => simp only [KS, List.length_append]; split <;> simp <;> omega
theorem KS_sorted {L : Int → List (Int × Int)} {ss ks : List Int} (h1 : (KS L 8).Perm ks) (h2 : ss.Perm ks) : ss.mergeSort (fun x y => decide (x ≤ y)) = KS L 8 := by
  rw [mergeSort_of_perm_i (h2.trans h1.symm)]
  refine List.mergeSort_of_pairwise ((KS_lt L 8).imp (fun h => ?_))
  simp; omega
theorem Lk_rep {R F T : Nat → Int} : ∀ k : Nat, okTo R F T k → ∀ r, Lk R F T k r ≠ [] → 0 ≤ r ∧ r < 8
  | 0, _ => fun r h => absurd rfl h
  | k + 1, h => fun r hr => by
    have ho := runOk_iff.1 (h k (by omega)).1
    by_cases e : r = R k
    · subst e; exact ⟨ho.1, ho.2.1⟩
    · have e1 : Lk R F T (k + 1) r = Lk R F T k r := upd_other _ _ e
      rw [e1] at hr
      exact Lk_rep k (fun i hi => h i (by omega)) r hr
end Go.Proofs.YtakmpmhjcngbbaaGreatDoor
namespace Go.Proofs.YtakmpmhjcngbbaaGreatDoor
open Go.ChangeShapes Go.WideShapes Go.ChangeAt Go.RowKit Go.Maps Go.Sort
def repB (L : Int → List (Int × Int)) (r : Int) : List Int := uvF 9 r.toNat ++ grpB (L r)
def putK (L : Int → List (Int × Int)) (ks : List Int) : Nat → List Int
  | 0 => []
  | k + 1 => putK L ks k ++ repB L (ks.getD k 0)
def putB (L : Int → List (Int × Int)) : List Int := uvF 9 (KS L 8).length ++ putK L (KS L 8) (KS L 8).length
theorem row_ints {w : World} {B g m cap : Nat} {zs : List Int} (h : w.ownsRow B 3 1 (.slice (some ⟨g, 0, none⟩) m cap) m (zs.map encZ)) (hl : zs.length = m) : ∀ i, i < m → w.cell? ⟨g, i, none⟩ = some (.int .i64 (zs.getD i 0)) := by
  intro i hi
  rw [h.cellAt i (by omega)]
  simp [List.getD, show i < zs.length by omega]
theorem cell_three_new (w : World) (x y z : Value) (t : TypeId) : ∀ j u, [x, y, z][j]? = some u → (w.alloc (.cells #[x, y, z] t)).cell? ((⟨w.heap.size, 0, none⟩ : Addr).add j) = some u := by
  intro j u hj
  match j, hj with
  | 0, hj => simp at hj; subst hj; simp [Addr.add]
  | 1, hj => simp at hj; subst hj; simp [Addr.add]
  | 2, hj => simp at hj; subst hj; simp [Addr.add]
def runCells (r : Int) (l : List (Int × Int)) : List Value := l.flatMap fun p => [.int .i64 r, .int .i64 p.1, .int .i64 p.2]
theorem runCells_snoc (r : Int) (l : List (Int × Int)) (p : Int × Int) : runCells r (l ++ [p]) = runCells r l ++ [.int .i64 r, .int .i64 p.1, .int .i64 p.2] := by simp [runCells]
theorem RSeg.at {w : World} {a : Option Addr} {n : Nat} {R F T : Nat → Int} (h : RSeg w a n R F T) {k : Nat} (hk : k < n) : ∃ b off, a = some ⟨b, off, none⟩ ∧ b < w.heap.size ∧ w.cell? ⟨b, off + k * 3, none⟩ = some (.int .i64 (R k)) ∧ w.cell? ⟨b, off + k * 3 + 1, none⟩ = some (.int .i64 (F k)) ∧ w.cell? ⟨b, off + k * 3 + 2, none⟩ = some (.int .i64 (T k)) := by
  rcases h with h | ⟨b, off, rfl, hb, hc⟩
  · omega
  · exact ⟨b, off, rfl, hb, hc k hk⟩
theorem specOf (a : Option Addr) (n c : Nat) (R F T : Nat → Int) (rep : Int) (w : World) (hn : n ≤ 1048576) (h : RSeg w a n R F T) :
    Calls Tryz.prog 64 #[.agg #[.slice a n c], .int .i64 rep] w fun e w' => ∃ v, e = .returned v ∧ w'.ownsRow w.heap.size 64 3 v (Lk R F T n rep).length (runCells rep (Lk R F T n rep)) ∧ Below w.heap.size w w' := by
  obtain ⟨i0, hi, hz0, hz1, hz2⟩ := info_parts Tryz.infoRun
  obtain ⟨L, hLL⟩ : ∃ L : Nat → List (Int × Int), (fun k => Lk R F T k rep) = L := ⟨_, rfl⟩
  have e0 : Lk R F T n rep = L n := by rw [← hLL]
  have HL0 : Hid (L 0 = []) := by show L 0 = []; rw [← hLL]; rfl
  have HLy : Hid (∀ k, R k = rep → L (k + 1) = L k ++ [(F k, T k)]) := fun k e => by
    rw [← hLL]; show upd _ _ _ _ = _; rw [← e, upd_same]
  have HLn : Hid (∀ k, R k ≠ rep → L (k + 1) = L k) := fun k e => by
    rw [← hLL]; show upd _ _ _ _ = _; rw [upd_other _ _ (fun h => e h.symm)]
  have HLl : Hid (∀ k, (L k).length ≤ k) := fun k => by rw [← hLL]; exact Lk_len R F T k rep
  rw [e0]
  clear e0 hLL
  have hbox : (w.alloc (.cells #[.slice a n c] 26)).cell? ⟨w.heap.size, 0, none⟩ = some (.slice a n c) := by simp
  go_enter Tryz.func64, Tryz.ntmps64
  go_wp2_with fail
  go_loopw [5, 6] (fun v i wr => ∃ k : Nat, k ≤ n ∧ i = .int .i64 k ∧ Hid (wr.ownsRow (w.heap.size + 1) 64 3 v (L k).length (runCells rep (L k))) ∧ Hid (Below w.heap.size w wr) ∧ wr.cell? ⟨w.heap.size, 0, none⟩ = some (.slice a n c) ∧ w.heap.size + 1 ≤ wr.heap.size) (fun _ i _ => n - (intOf i).toNat)
  case atStart =>
    refine ⟨0, Nat.zero_le _, rfl, ?_, hid (below2 _ _ _), by simp, by simp⟩
    rw [HL0.out]
    have := World.ownsRow_lit (base := w.heap.size + 1) (e := 64) (size := 3) (w.alloc (.cells #[.slice a n c] 26)) #[] 0 (by simp) (by unfold maxLen; omega) rfl
    exact hid (by simpa [runCells] using this)
  case round =>
    obtain ⟨k, hk, rfl, hown, hbel, hbx, hsz⟩ := hrel
    by_cases hlt : k < n
    · obtain ⟨b, off, rfl, hb, hc0, hc1, hc2⟩ := (h.below hbel.out).at hlt
      have hlk := HLl.out k
      by_cases he : R k = rep
      · have e1 : (R k == rep) = true := by simp [he]
        have hLk := HLy.out k he
        subst he
        have HN := hid hLk
        have hbne : some w.heap.size ≠ u5.ownBlock := fun e => by have := (hown.out.lt _ e.symm).1; omega
        clear hLk
        go_wp2_with (at_builtin; refine wpList_app_at rfl _ _ 24 rfl (w.heap.size + 1) 64 i0 _ 3 24 Tryz.underlying24 hi hz0 hz1 hz2 rfl (by decide) _ _ _ rfl (hown.out.alloc _) ⟨wr.heap.size, 0, none⟩ 1 1 [.int .i64 (R k), .int .i64 (F k), .int .i64 (T k)] rfl rfl ?c1 ?c2 ?c3 ?c4 ?c5 ?_)
        case c1 => exact cell_three_new _ _ _ _ _
        case c2 => intro u hu; simp at hu; rcases hu with rfl | rfl | rfl <;> rfl
        case c3 => unfold maxLen; omega
        case c4 => omega
        case c5 => simp; omega
        · intro v' w1 hown' hgr hloc
          have R1 : Hid (w1.ownsRow (w.heap.size + 1) 64 3 v' (L (k + 1)).length (runCells (R k) (L (k + 1)))) := by
            rw [HN.out, runCells_snoc, List.length_append]; exact hown'
          have RB : Hid (Below w.heap.size w w1) := (hbel.out.alloc (by omega) _).grown hgr (by simp; omega) (fun k hk => by have := (hown.out.lt k hk).1; omega)
          have RC : w1.cell? ⟨w.heap.size, 0, none⟩ = some (.slice (some ⟨b, off, none⟩) n c) := hgr.cell (by rw [Below.cell (B := wr.heap.size) ((Below.refl _ _).alloc (Nat.le_refl _) _) (show w.heap.size < wr.heap.size by omega)]; exact hbx) hbne
          have RZ := hgr.size
          simp at RZ
          clear hown' hgr hloc hc0 hc1 hc2 hbx
          go_wp2_with fail
          go_roundw
          case rel => exact ⟨k + 1, hlt, by go_num, R1, RB, RC, by omega⟩
          case measure => simp [intOf]; omega
      · have e1 : (R k == rep) = false := by simp [he]
        have hLk := HLn.out k he
        have HN := hid hLk
        clear hLk
        go_wp2_with fail
        go_roundw
        case rel => exact ⟨k + 1, hlt, by go_num, by rw [HN.out]; exact hown, hbel, hbx, hsz⟩
        case measure => simp [intOf]; omega
    · obtain rfl : k = n := by omega
      go_wp2_with fail
      go_ret
      refine ⟨_, rfl, ?_, hbel.out⟩
      obtain ⟨q1, q2⟩ := hown.out
      refine ⟨q1, ?_⟩
      rcases q2 with q2 | ⟨g, cap, cur, rfl, hbg, r⟩
      · exact .inl q2
      · exact .inr ⟨g, cap, cur, rfl, by omega, r⟩
theorem specPut1 (m : Nat) (w : World) (hm : m ≤ 1000000000) :
    Calls Tryz.prog 65 #[.int .i64 (m : Int)] w fun e w' => ∃ v, e = .returned v ∧ Own w' w.heap.size v (uvF 9 m) ∧ Below w.heap.size w w' ∧ w.heap.size < w'.heap.size := by
  have x3 : IntKind.u64.wrap (m : Int) = (m : Int) := wrapU _ (by omega) (by omega)
  go_enter Tryz.func65, Tryz.ntmps65
  go_wp2_with fail
  refine (specUv 9 m w (Nat.le_refl _) (show m < 128 ^ (9 + 1) by omega) (by omega)).mono ?_
  rintro e w1 ⟨v, rfl, ho, hb, hz⟩
  go_wp2_with fail
  go_ret
  exact ⟨v, rfl, ho, hb, hz⟩
abbrev Rn := Int × Int × Int
def Apt (p q : Rn) : Prop := p.1 < q.1 ∨ (p.1 = q.1 ∧ p.2.2 + 1 < q.2.1)
instance (p q : Rn) : Decidable (Apt p q) := by unfold Apt; infer_instance
def Rok (p : Rn) : Prop := 0 ≤ p.1 ∧ p.1 < 8 ∧ 1 ≤ p.2.1 ∧ p.2.1 ≤ p.2.2 ∧ p.2.2 ≤ 1000000000
def FSrt (l : List Rn) : Prop := l.Pairwise Apt ∧ ∀ p ∈ l, Rok p
def InR (p : Rn) (r x : Int) : Prop := p.1 = r ∧ p.2.1 ≤ x ∧ x ≤ p.2.2
def RI (l : List Rn) (r x : Int) : Prop := ∃ p ∈ l, InR p r x
theorem Apt.trans {p q s : Rn} (h1 : Apt p q) (hq : Rok q) (h2 : Apt q s) : Apt p s := by
  unfold Apt Rok at *; omega
theorem RI_cons {p : Rn} {l : List Rn} {r x : Int} : RI (p :: l) r x ↔ InR p r x ∨ RI l r x := by simp [RI]
theorem RI_append {l l' : List Rn} {r x : Int} : RI (l ++ l') r x ↔ RI l r x ∨ RI l' r x := by
  constructor
  · rintro ⟨p, hp, h⟩
    rcases List.mem_append.1 hp with hp | hp
    · exact .inl ⟨p, hp, h⟩
    · exact .inr ⟨p, hp, h⟩
  · rintro (⟨p, hp, h⟩ | ⟨p, hp, h⟩)
    · exact ⟨p, List.mem_append.2 (.inl hp), h⟩
    · exact ⟨p, List.mem_append.2 (.inr hp), h⟩
theorem RI_one {p : Rn} {r x : Int} : RI [p] r x ↔ InR p r x := by simp [RI]
theorem RI_nil {r x : Int} : ¬ RI [] r x := by simp [RI]
theorem first_le {p q : Rn} {l : List Rn} (h : FSrt (p :: l)) (hq : q ∈ p :: l) : p.1 < q.1 ∨ (p.1 = q.1 ∧ p.2.1 ≤ q.2.1) := by
  rcases List.mem_cons.1 hq with rfl | hq
  · exact .inr ⟨rfl, Int.le_refl _⟩
  · have h1 := (List.pairwise_cons.1 h.1).1 q hq
    have h2 := h.2 p (List.mem_cons_self)
    unfold Apt Rok at *; omega
theorem uniq_to {p p' : Rn} {t t' : List Rn} (h : FSrt (p :: t)) (h' : FSrt (p' :: t')) (he : ∀ r x, RI (p :: t) r x → RI (p' :: t') r x) (hf : p.1 = p'.1 ∧ p.2.1 = p'.2.1) : p.2.2 ≤ p'.2.2 := by
  have ok := h.2 p List.mem_cons_self
  have ok' := h'.2 p' List.mem_cons_self
  rcases Int.lt_or_le p'.2.2 p.2.2 with hlt | hle
  · exfalso
    have hin : RI (p :: t) p.1 (p'.2.2 + 1) := ⟨p, List.mem_cons_self, rfl, by unfold Rok at *; omega, by omega⟩
    obtain ⟨q, hq, e1, e2, e3⟩ := he _ _ hin
    rcases List.mem_cons.1 hq with rfl | hq
    · omega
    · have := (List.pairwise_cons.1 h'.1).1 q hq
      unfold Apt at this; omega
  · exact hle
theorem uniq : ∀ {l l' : List Rn}, FSrt l → FSrt l' → (∀ r x, RI l r x ↔ RI l' r x) → l = l'
  | [], [], _, _, _ => rfl
  | [], p' :: t', _, h', he => by
    have ok' := h'.2 p' List.mem_cons_self
    exact absurd ((he p'.1 p'.2.1).2 ⟨p', List.mem_cons_self, rfl, Int.le_refl _, ok'.2.2.2.1⟩) RI_nil
  | p :: t, [], h, _, he => by
    have ok := h.2 p List.mem_cons_self
    exact absurd ((he p.1 p.2.1).1 ⟨p, List.mem_cons_self, rfl, Int.le_refl _, ok.2.2.2.1⟩) RI_nil
  | p :: t, p' :: t', h, h', he => by
    have ok := h.2 p List.mem_cons_self
    have ok' := h'.2 p' List.mem_cons_self
    have hf : p.1 = p'.1 ∧ p.2.1 = p'.2.1 := by
      obtain ⟨q, hq, e1, e2, e3⟩ := (he p.1 p.2.1).1 ⟨p, List.mem_cons_self, rfl, Int.le_refl _, ok.2.2.2.1⟩
      obtain ⟨q', hq', e1', e2', e3'⟩ := (he p'.1 p'.2.1).2 ⟨p', List.mem_cons_self, rfl, Int.le_refl _, ok'.2.2.2.1⟩
      have a := first_le h' hq
      have b := first_le h hq'
      omega
    have h1 := uniq_to h h' (fun r x => (he r x).1) hf
    have h2 := uniq_to h' h (fun r x => (he r x).2) ⟨hf.1.symm, hf.2.symm⟩
    have hp : p = p' := by
      obtain ⟨a, b, c⟩ := p
      obtain ⟨a', b', c'⟩ := p'
      simp at hf h1 h2
      obtain ⟨rfl, rfl⟩ := hf
      have : c = c' := by omega
      rw [this]
    subst hp
    have no : ∀ {s : List Rn}, FSrt (p :: s) → ∀ {r x}, RI s r x → ¬ InR p r x := by
      rintro s hs r x ⟨q, hq, f1, f2, f3⟩ ⟨g1, g2, g3⟩
      have := (List.pairwise_cons.1 hs.1).1 q hq
      unfold Apt at this; omega
    have ht : t = t' := by
      refine uniq ⟨(List.pairwise_cons.1 h.1).2, fun q hq => h.2 q (List.mem_cons_of_mem _ hq)⟩ ⟨(List.pairwise_cons.1 h'.1).2, fun q hq => h'.2 q (List.mem_cons_of_mem _ hq)⟩ (fun r x => ?_)
      have e := he r x
      rw [RI_cons, RI_cons] at e
      constructor
      · intro hx
        rcases e.1 (.inr hx) with k | k
        · exact absurd k (no h hx)
        · exact k
      · intro hx
        rcases e.2 (.inr hx) with k | k
        · exact absurd k (no h' hx)
        · exact k
    rw [ht]
def RS (s : List Rn × Rn × List Rn) (r x : Int) : Prop := RI s.1 r x ∨ InR s.2.1 r x ∨ RI s.2.2 r x
theorem FSrt.snoc {l : List Rn} {q : Rn} (h : FSrt l) (hq : Rok q) (ha : ∀ p ∈ l, Apt p q) : FSrt (l ++ [q]) :=
  ⟨List.pairwise_append.2 ⟨h.1, List.pairwise_singleton _ _, fun p hp q' hq' => by rw [List.mem_singleton] at hq'; subst hq'; exact ha p hp⟩, fun p hp => by
    rcases List.mem_append.1 hp with hp | hp
    · exact h.2 p hp
    · rw [List.mem_singleton] at hp; subst hp; exact hq⟩
end Go.Proofs.YtakmpmhjcngbbaaGreatDoor
