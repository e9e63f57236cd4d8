import Derived.Test.YtakmpmhjcngbbaaGreatDoorMgg05
import Derived.Maps.Own
import Derived.Maps.OwnSet
import Derived.Maps.OwnOps
import Derived.Maps.AppendAt
import Derived.Maps.Views
set_option linter.unusedVariables false
set_option linter.unusedSimpArgs false
set_option maxRecDepth 100000
set_option maxHeartbeats 40000000
namespace Go.Proofs.YtakmpmhjcngbbaaGreatDoor
open Go.ChangeShapes Go.WideShapes Go.ChangeAt Go.RowKit Go.Maps
def rawR (v : Value) : Option (DataW Value × List MemPlace) := match v with
  | .slice a n c => some (.held (.slice a n c), [])
  | _ => none
theorem rawR_inv {v : Value} {d : DataW Value} {ps : List MemPlace} (h : rawR v = some (d, ps)) : d = .held v ∧ ∃ a n c, v = .slice a n c := by
  unfold rawR at h
  split at h
  · simp at h; exact ⟨h.1.symm, _, _, _, rfl⟩
  · cases h
def kI (r : Int) : Lit := .int .i64 r
def upd {α : Type} (G : Int → α) (r : Int) (v : α) (x : Int) : α := if x = r then v else G x
theorem upd_same {α : Type} (G : Int → α) (r : Int) (v : α) : upd G r v r = v := if_pos rfl
theorem upd_other {α : Type} (G : Int → α) {r x : Int} (v : α) (h : x ≠ r) : upd G r v x = G x := if_neg h
theorem kI_ne {r x : Int} (h : x ≠ r) : kI x ≠ kI r := fun e => h (by unfold kI at e; injection e)
def spanCells (l : List (Int × Int)) : List Value := l.flatMap fun p => [.int .i64 p.1, .int .i64 p.2]
theorem spanCells_append (l : List (Int × Int)) (p : Int × Int) : spanCells (l ++ [p]) = spanCells l ++ [.int .i64 p.1, .int .i64 p.2] := by simp [spanCells]
structure GrpAt (w : World) (bm n : Nat) (D : DataW Value) (G : Int → Value) (L : Int → List (Int × Int)) : Prop where
  own : w.ownsMap Tryz.prog 3 rawR bm n D
  at' : ∀ r, D.atKey (kI r) (.held (.slice none 0 0)) = .held (G r)
  has' : ∀ r, Maps.has D (kI r) = !(L r).isEmpty
  rows : ∀ r, w.ownsRow (bm + 1) 130 2 (G r) (L r).length (spanCells (L r))
  apart : ∀ r r' g, (G r).ownBlock = some g → (G r').ownBlock = some g → r = r'
def Lk (R F T : Nat → Int) : Nat → Int → List (Int × Int)
  | 0 => fun _ => []
  | k + 1 => upd (Lk R F T k) (R k) (Lk R F T k (R k) ++ [(F k, T k)])
theorem Lk_len (R F T : Nat → Int) (k : Nat) : ∀ r, (Lk R F T k r).length ≤ k := by
  induction k with
  | zero => intro r; simp [Lk]
  | succ k ih =>
    intro r
    by_cases e : r = R k
    · subst e; simp only [Lk]; rw [upd_same]; have := ih (R k); simp; omega
    · simp only [Lk]; rw [upd_other _ _ e]; have := ih r; omega
theorem zeroSpans (w : World) : (zeroValue 128).run Tryz.prog w = .ok (.slice none 0 0) w := by kernel_rfl
theorem wfI {r : Int} (h0 : -9223372036854775808 ≤ r) (h1 : r ≤ 9223372036854775807) : (Lit.int .i64 r).wf = true := by
  have e0 : IntKind.i64.min = -9223372036854775808 := by decide
  have e1 : IntKind.i64.max = 9223372036854775807 := by decide
  simp only [Lit.wf, e0, e1, Bool.and_eq_true, decide_eq_true_iff]
  exact ⟨h0, h1⟩
theorem Tryz.infoSpan : (Tryz.prog.info? 130).map (fun i => (i.zero, i.size, i.bytes)) = some (some (.agg #[.int .i64 0, .int .i64 0]), 2, 16) := by kernel_rfl
theorem wp_app_at {P : Program} {o : Oper} {a : Act} {w : World} {K : Act → World → Prop} {Q : Exit → Act → World → Prop} (s x : Operand) (t : TypeId)
    (ho : o.op = .call { callee := .builtin .append, args := #[s, x], argTypes := #[t, t] })
    (base : Nat) (e : TypeId) (i : TypeInfo) (z : Value) (size bytes : Nat) (ht : P.underlying t = some (.slice e)) (hi : P.info? e = some i) (hz : i.zero = some z)
    (hsize : i.size = size) (hby : i.bytes = bytes) (hzs : z.cells.size = size) (hsz : 0 < size)
    (v : Value) (n : Nat) (xs : List Value) (hs : a.eval s = v) (hown : w.ownsRow base e size v n xs)
    (ad : Addr) (m c : Nat) (news : List Value) (hx : a.eval x = .slice (some ad) m c) (hl : news.length = m * size) (hnews : ∀ j u, news[j]? = some u → w.cell? (ad.add j) = some u) (h1 : ∀ u ∈ news, u.oneCell' = true)
    (h63 : n + m ≤ maxLen) (hbytes : (n + m) * bytes ≤ 140737488355328) (hbase : base ≤ w.heap.size)
    (h : ∀ v' w', w'.ownsRow base e size v' (n + m) (xs ++ news) → w.grownBy w' v.ownBlock → (v'.ownBlock = v.ownBlock ∨ v'.ownBlock = some w.heap.size) → K (a.put o.dst v') w') : o.wp P a w K Q := by
  obtain ⟨v', w', hr, h2, h3, h4, h5⟩ := run_append_own_at (P := P) w base t o.type e i z size bytes ht hi hz hsize hby hzs hsz v n xs hown ad m c news hl hnews h1 h63 hbytes hbase
  unfold Oper.wp execOp
  simp only [ho, resolve, invoke, builtin, Sem.run_bind, Sem.run_pure, Result.andThen_ok, List.map_toArray, List.map_cons, List.map_nil, hs, hx, hr]
  exact h v' w' h2 h3 h5
theorem grp_made (w : World) : GrpAt (w.alloc (.map #[] 0)) w.heap.size 0 (.map []) (fun _ => .slice none 0 0) (fun _ => []) :=
  ⟨World.ownsMap_made w _ _ _, fun r => rfl, fun r => rfl, fun r => World.ownsRow_nil _ _ _ _, fun r r' g h _ => by cases h⟩
def topK (R T : Nat → Int) (rep : Int) : Nat → Int
  | 0 => 0
  | k + 1 => if R k = rep ∧ topK R T rep k < T k then T k else topK R T rep k
def lastTo (l : List (Int × Int)) : Int := match l.getLast? with | none => 0 | some p => p.2
theorem lastTo_snoc (l : List (Int × Int)) (p : Int × Int) : lastTo (l ++ [p]) = p.2 := by simp [lastTo]
theorem lastTo_nil : lastTo [] = 0 := rfl
theorem Lk_inv {R F T : Nat → Int} : ∀ k : Nat, okTo R F T k → (∀ r, Lk R F T k r ≠ [] → 0 < k ∧ r ≤ R (k - 1)) ∧ (0 < k → lastTo (Lk R F T k (R (k - 1))) = T (k - 1)) ∧ (∀ r, topK R T r k = lastTo (Lk R F T k r)) ∧ (∀ r, 0 ≤ lastTo (Lk R F T k r) ∧ lastTo (Lk R F T k r) ≤ 1000000000)
  | 0, _ => ⟨fun r h => absurd rfl h, fun h => absurd h (by omega), fun r => rfl, fun r => by simp [Lk, lastTo]⟩
  | k + 1, h => by
    have hk : okTo R F T k := fun i hi => h i (by omega)
    obtain ⟨i1, i2, i3, i4⟩ := Lk_inv k hk
    have ho := runOk_iff.1 (h k (by omega)).1
    have hap : 0 < k → (R (k - 1) < R k ∨ (R (k - 1) = R k ∧ T (k - 1) + 1 < F k)) := fun h0 => by
      have := (h k (by omega)).2 h0
      unfold apartB at this
      exact of_decide_eq_true this
    have e1 : ∀ r, Lk R F T (k + 1) r = upd (Lk R F T k) (R k) (Lk R F T k (R k) ++ [(F k, T k)]) r := fun r => rfl
    have hlt : lastTo (Lk R F T k (R k)) < T k := by
      by_cases hn : Lk R F T k (R k) = []
      · rw [hn, lastTo_nil]; omega
      · obtain ⟨h0, hle⟩ := i1 (R k) hn
        rcases hap h0 with hh | ⟨hh, h2⟩
        · omega
        · rw [← hh, i2 h0]; omega
    refine ⟨fun r hr => ?_, fun _ => ?_, fun r => ?_, fun r => ?_⟩
    · refine ⟨by omega, ?_⟩
      rw [Nat.add_sub_cancel]
      rw [e1] at hr
      by_cases e : r = R k
      · omega
      · rw [upd_other _ _ e] at hr
        obtain ⟨h0, hle⟩ := i1 r hr
        rcases hap h0 with hh | ⟨hh, _⟩ <;> omega
    · rw [Nat.add_sub_cancel, e1, upd_same, lastTo_snoc]
    · rw [e1]
      by_cases e : r = R k
      · subst e
        rw [upd_same, lastTo_snoc]
        show (if R k = R k ∧ topK R T (R k) k < T k then T k else topK R T (R k) k) = T k
        rw [if_pos ⟨rfl, by rw [i3]; exact hlt⟩]
      · rw [upd_other _ _ e, ← i3 r]
        show (if R k = r ∧ topK R T r k < T k then T k else topK R T r k) = topK R T r k
        rw [if_neg (fun hh => e hh.1.symm)]
    · rw [e1]
      by_cases e : r = R k
      · subst e; rw [upd_same, lastTo_snoc]; show 0 ≤ T k ∧ T k ≤ 1000000000; omega
      · rw [upd_other _ _ e]; exact i4 r
def Srt (l : List (Int × Int)) : Prop := l.Pairwise (fun p q => p.2 + 1 < q.1) ∧ ∀ p ∈ l, 1 ≤ p.1 ∧ p.1 ≤ p.2 ∧ p.2 ≤ 1000000000
theorem Lk_srt {R F T : Nat → Int} : ∀ k : Nat, okTo R F T k → ∀ r, Srt (Lk R F T k r) ∧ ∀ p ∈ Lk R F T k r, p.2 ≤ lastTo (Lk R F T k r)
  | 0, _ => fun r => ⟨⟨List.Pairwise.nil, fun p hp => by cases hp⟩, fun p hp => by cases hp⟩
  | k + 1, h => by
    have hk : okTo R F T k := fun i hi => h i (by omega)
    have ih := Lk_srt k hk
    obtain ⟨i1, i2, i3, i4⟩ := Lk_inv k hk
    have ho := runOk_iff.1 (h k (by omega)).1
    have hap : 0 < k → (R (k - 1) < R k ∨ (R (k - 1) = R k ∧ T (k - 1) + 1 < F k)) := fun h0 => by
      have := (h k (by omega)).2 h0
      unfold apartB at this
      exact of_decide_eq_true this
    intro r
    show Srt (upd (Lk R F T k) (R k) (Lk R F T k (R k) ++ [(F k, T k)]) r) ∧ ∀ p ∈ upd (Lk R F T k) (R k) (Lk R F T k (R k) ++ [(F k, T k)]) r, p.2 ≤ lastTo (upd (Lk R F T k) (R k) (Lk R F T k (R k) ++ [(F k, T k)]) r)
    by_cases e : r = R k
    · subst e
      rw [upd_same]
      obtain ⟨⟨p1, p2⟩, p3⟩ := ih (R k)
      have hlt : ∀ p ∈ Lk R F T k (R k), p.2 + 1 < F k := by
        intro p hp
        obtain ⟨h0, hle⟩ := i1 (R k) (List.ne_nil_of_mem hp)
        have := p3 p hp
        rcases hap h0 with hh | ⟨hh, h2⟩
        · omega
        · rw [← hh, i2 h0] at this; omega
      refine ⟨⟨List.pairwise_append.2 ⟨p1, List.pairwise_singleton _ _, fun p hp q hq => ?_⟩, fun p hp => ?_⟩, fun p hp => ?_⟩
      · rw [List.mem_singleton] at hq; subst hq; exact hlt p hp
      · rcases List.mem_append.1 hp with hp | hp
        · exact p2 p hp
        · rw [List.mem_singleton] at hp; subst hp; exact ⟨by omega, by omega, by omega⟩
      · rw [lastTo_snoc]
        rcases List.mem_append.1 hp with hp | hp
        · have := hlt p hp; show p.2 ≤ T k; omega
        · rw [List.mem_singleton] at hp; subst hp; exact Int.le_refl _
    · rw [upd_other _ _ e]; exact ih r
def SS (w : World) (a : Option Addr) (n : Nat) (f t : Nat → Int) : Prop :=
  n = 0 ∨ ∃ b off, a = some ⟨b, off, none⟩ ∧ b < w.heap.size ∧ ∀ i, i < n → w.cell? ⟨b, off + i * 2, none⟩ = some (.int .i64 (f i)) ∧ w.cell? ⟨b, off + i * 2 + 1, none⟩ = some (.int .i64 (t i))
theorem ss_own {w : World} {B n cap g : Nat} {l : List (Int × Int)} (h : w.ownsRow B 130 2 (.slice (some ⟨g, 0, none⟩) n cap) n (spanCells l)) (hl : l.length = n) :
    SS w (some ⟨g, 0, none⟩) n (fun i => (l.getD i (0, 0)).1) (fun i => (l.getD i (0, 0)).2) := by
  refine .inr ⟨g, 0, rfl, (h.lt g rfl).2, fun i hi => ?_⟩
  have key : ∀ (l : List (Int × Int)) (i : Nat), i < l.length → (spanCells l)[i * 2]? = some (.int .i64 (l.getD i (0, 0)).1) ∧ (spanCells l)[i * 2 + 1]? = some (.int .i64 (l.getD i (0, 0)).2) := by
    intro l
    induction l with
    | nil => intro i hi; simp at hi
    | cons a l ih =>
      intro i hi
      cases i with
      | zero => simp [spanCells]
      | succ i =>
        have := ih i (by simpa using hi)
        have e : spanCells (a :: l) = .int .i64 a.1 :: .int .i64 a.2 :: spanCells l := by simp [spanCells]
        rw [e, show (i + 1) * 2 = i * 2 + 1 + 1 from by omega]
        simpa using this
  rw [Nat.zero_add, h.cellAt _ (by omega), h.cellAt _ (by omega)]
  exact key l i (by omega)
theorem srt_get {l : List (Int × Int)} (h : Srt l) {i j : Nat} (hij : i < j) (hj : j < l.length) : (l.getD i (0, 0)).2 + 1 < (l.getD j (0, 0)).1 ∧ (l.getD i (0, 0)).1 ≤ (l.getD i (0, 0)).2 ∧ (l.getD j (0, 0)).1 ≤ (l.getD j (0, 0)).2 := by
  have e1 : l.getD i (0, 0) = l[i] := by simp [List.getD, show i < l.length by omega]
  have e2 : l.getD j (0, 0) = l[j] := by simp [List.getD, hj]
  rw [e1, e2]
  exact ⟨List.pairwise_iff_getElem.1 h.1 i j (by omega) hj hij, (h.2 _ (List.getElem_mem _)).2.1, (h.2 _ (List.getElem_mem _)).2.1⟩
end Go.Proofs.YtakmpmhjcngbbaaGreatDoor
