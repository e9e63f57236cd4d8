import Derived.Test.YtbimcammjohaoaeNwT
import Derived.ChangeOld
import Derived.WalkLawsBesides
import Derived.WalkSpells
import Derived.Outline
import Derived.Deep.RegionHeld3
import Derived.Maps.AppendAt
namespace Go.Proofs.Ytbimcammjohaoae.fnExactNewWorld
open Go.ChangeShapes Go.WideShapes Go.ChangeAt Go.RowKit
set_option linter.unusedVariables false
set_option linter.unusedSimpArgs false

theorem take1 {P : Program} {ops : Array Oper} {Q : Exit → Act → World → Prop} {md : Region.Mode} {S : World → Prop} {i : Nat} {d : Option Tmp} {v : Value} {fuel : Nat} {listed : Array Bool} {a : Act} {w : World}
    (hd : ops[i]?.map (fun o => o.dst) = some d) (hs : Region.noSelect ops = true) (hf : Region.free md ops listed i = true) (hr : (Region.ready md ops listed).contains i = true)
    (hQ : ∀ c a w, Q (.panic c) (a.put d v) w → Q (.panic c) a w) (hy : ∀ o, ops[i]? = some o → YieldsIf P ops S o v a) (hS : S w)
    (h : wpAnyH P md ops Q S fuel (listed.setIfInBounds i true) (a.put d v) w) : wpAnyH P md ops Q S (fuel + 1) listed a w := by
  obtain ⟨o, ho, rfl⟩ := Option.map_eq_some_iff.1 hd
  exact wpAnyH_take ho hs hf hr hQ (hy o ho) hS h

theorem call1 {P : Program} {ops : Array Oper} {Q : Exit → Act → World → Prop} {md : Region.Mode} {S : World → Prop} {i : Nat} {d : Option Tmp} {fuel : Nat} {listed : Array Bool} {a : Act} {w : World}
    (hd : ops[i]?.map (fun o => o.dst) = some d) (hr : Region.ready md ops listed = [i])
    (h : ∀ o, ops[i]? = some o → o.dst = d → ∀ K' : Act → World → Prop, Shut (∀ a w, S w → (S w → wpAnyH P md ops Q S fuel (listed.setIfInBounds i true) a w) → K' a w) → if Region.wanted o (yielded ops a.tmps) = true then Oper.wp P o a w K' Q else K' (a.put o.dst undef) w) :
    wpAnyH P md ops Q S (fuel + 1) listed a w := by
  obtain ⟨o, ho, hod⟩ := Option.map_eq_some_iff.1 hd
  exact wpAnyH_ready hr (by simp) (AllReadyH.cons ho (h o ho hod) AllReadyH.nil)

theorem wp_app_at {P : Program} {o : Oper} {a : Act} {w : World} {K : Act → World → Prop} {Q : Exit → Act → World → Prop} (s x : Operand) (t : TypeId)
    (ho : o.op = .call { callee := .builtin .append, args := #[s, x], argTypes := #[t, t] })
    (base : Nat) (e : TypeId) (i : TypeInfo) (z : Value) (size bytes : Nat) (ht : P.underlying t = some (.slice e)) (hi : P.info? e = some i) (hz : i.zero = some z)
    (hsize : i.size = size) (hby : i.bytes = bytes) (hzs : z.cells.size = size) (hsz : 0 < size)
    (v : Value) (n : Nat) (xs : List Value) (hs : a.eval s = v) (hown : w.ownsRow base e size v n xs)
    (ad : Addr) (m c : Nat) (news : List Value) (hx : a.eval x = .slice (some ad) m c) (hl : news.length = m * size) (hnews : ∀ j u, news[j]? = some u → w.cell? (ad.add j) = some u) (h1 : ∀ u ∈ news, u.oneCell' = true)
    (h63 : n + m ≤ maxLen) (hbytes : (n + m) * bytes ≤ 140737488355328) (hbase : base ≤ w.heap.size)
    (h : ∀ v' w', w'.ownsRow base e size v' (n + m) (xs ++ news) → w.grownBy w' v.ownBlock → (v'.ownBlock = v.ownBlock ∨ v'.ownBlock = some w.heap.size) → K (a.put o.dst v') w') : o.wp P a w K Q := by
  obtain ⟨v', w', hr, h2, h3, h4, h5⟩ := run_append_own_at (P := P) w base t o.type e i z size bytes ht hi hz hsize hby hzs hsz v n xs hown ad m c news hl hnews h1 h63 hbytes hbase
  unfold Oper.wp execOp
  simp only [ho, resolve, invoke, builtin, Sem.run_bind, Sem.run_pure, Result.andThen_ok, List.map_toArray, List.map_cons, List.map_nil, hs, hx, hr]
  exact h v' w' h2 h3 h5

theorem wpList_app_at {P : Program} {w : World} {ops : Array Oper} {rest : List Oper} {o : Oper} {a : Act} {Q : Exit → Act → World → Prop} (hgd : o.guard = none) (s x : Operand) (t : TypeId)
    (ho : o.op = .call { callee := .builtin .append, args := #[s, x], argTypes := #[t, t] })
    (base : Nat) (e : TypeId) (i : TypeInfo) (z : Value) (size bytes : Nat) (ht : P.underlying t = some (.slice e)) (hi : P.info? e = some i) (hz : i.zero = some z)
    (hsize : i.size = size) (hby : i.bytes = bytes) (hzs : z.cells.size = size) (hsz : 0 < size)
    (v : Value) (n : Nat) (xs : List Value) (hs : a.eval s = v) (hown : w.ownsRow base e size v n xs)
    (ad : Addr) (m c : Nat) (news : List Value) (hx : a.eval x = .slice (some ad) m c) (hl : news.length = m * size) (hnews : ∀ j u, news[j]? = some u → w.cell? (ad.add j) = some u) (h1 : ∀ u ∈ news, u.oneCell' = true)
    (h63 : n + m ≤ maxLen) (hbytes : (n + m) * bytes ≤ 140737488355328) (hbase : base ≤ w.heap.size)
    (h : ∀ v' w', w'.ownsRow base e size v' (n + m) (xs ++ news) → w.grownBy w' v.ownBlock → (v'.ownBlock = v.ownBlock ∨ v'.ownBlock = some w.heap.size) → wpList P ops Q rest (a.put o.dst v') w') : wpList P ops Q (o :: rest) a w :=
  wpList_plain hgd fun _ hK => wp_app_at s x t ho base e i z size bytes ht hi hz hsize hby hzs hsz v n xs hs hown ad m c news hx hl hnews h1 h63 hbytes hbase fun v' w' h2 h3 h4 => hK _ _ (h v' w' h2 h3 h4)

def RdR (w : World) (v : Value) (n size : Nat) (xs : List Value) : Prop := ∃ a c, v = .slice a n c ∧ (n = 0 ∨ ∃ g, a = some ⟨g, 0, none⟩ ∧ g < w.heap.size ∧ ∀ j, j < n * size → w.cell? ⟨g, j, none⟩ = xs[j]?)
theorem rd_of {w : World} {B : Nat} {e : TypeId} {size : Nat} {v : Value} {n : Nat} {xs : List Value} (h : w.ownsRow B e size v n xs) : RdR w v n size xs := by
  rcases h.2 with ⟨e, e0⟩ | ⟨g, cap, cur, e, _⟩
  · exact ⟨none, 0, by rw [e, e0], .inl e0⟩
  · subst e; exact ⟨_, cap, rfl, .inr ⟨g, rfl, (h.lt g rfl).2, fun j hj => h.cellAt j hj⟩⟩
theorem RdR.below {w w1 : World} {v : Value} {n size : Nat} {xs : List Value} (h : RdR w v n size xs) {B : Nat} (hb : Below B w w1) (hB : w.heap.size ≤ B) : RdR w1 v n size xs := by
  obtain ⟨a, c, e, h⟩ := h
  refine ⟨a, c, e, h.imp id ?_⟩
  rintro ⟨g, e, hg, hc⟩
  exact ⟨g, e, Nat.lt_of_lt_of_le hg hb.size, fun j hj => (hb.cell (p := ⟨g, j, none⟩) (Nat.lt_of_lt_of_le hg hB)).trans (hc j hj)⟩

def RepX (n : Nat) (f : Nat → Int) (xs : List Value) : Prop := ∀ i, i < n → ∃ a b c d p q r s, xs[i * 5]? = some (.int .i64 (f i)) ∧ xs[i * 5 + 1]? = some (.slice a 0 p) ∧ xs[i * 5 + 2]? = some (.slice b 0 q) ∧ xs[i * 5 + 3]? = some (.slice c 0 r) ∧ xs[i * 5 + 4]? = some (.slice d 0 s)
def PipX (n : Nat) (f : Nat → Nat → Int) (xs : List Value) : Prop := ∀ i, i < n → ∃ a b p q, xs[i * 6]? = some (.int .i64 (f i 0)) ∧ xs[i * 6 + 1]? = some (.int .i64 (f i 1)) ∧ xs[i * 6 + 2]? = some (.slice a 0 p) ∧ xs[i * 6 + 3]? = some (.slice b 0 q) ∧ xs[i * 6 + 4]? = some (.int .i64 (f i 2)) ∧ xs[i * 6 + 5]? = some (.int .i64 (f i 3))

set_option maxRecDepth 100000 in
set_option maxHeartbeats 1000000 in
theorem eqReps (n : Nat) (v v' : Value) (f : Nat → Int) (xs ys : List Value) (w : World) (hn : n ≤ 1048576) (h : RdR w v n 5 xs) (h' : RdR w v' n 5 ys) (hx : RepX n f xs) (hy : RepX n f ys) :
    Calls Try.prog 28 #[v, v'] w fun e w' => e = .returned (.bool true) ∧ Below w.heap.size w w' := by
  obtain ⟨a, c, rfl, h⟩ := h
  obtain ⟨a', c', rfl, h'⟩ := h'
  by_cases h0 : n = 0
  · subst h0
    go_enter Try.func28, Try.ntmps28
    go_wp2_with fail
    refine wp_loop_rounds 1 ?_; rw [rounds_succ]; go_wp2_with fail
    go_ret
    exact ⟨rfl, Below.refl _ _⟩
  · rcases h with h | ⟨b, rfl, hb, hc⟩
    · exact absurd h h0
    rcases h' with h' | ⟨b', rfl, hb', hc'⟩
    · exact absurd h' h0
    go_enter Try.func28, Try.ntmps28
    go_wp2_with fail
    go_loopw [5] (fun i wr => ∃ k : Nat, k ≤ n ∧ i = .int .i64 k ∧ Below w.heap.size w wr) (fun i _ => n - (intOf i).toNat)
    case atStart => exact ⟨0, Nat.zero_le _, rfl, Below.refl _ _⟩
    case round =>
      obtain ⟨k, hk, rfl, hbel⟩ := hrel
      have zb := Nat.lt_of_lt_of_le hb hbel.size
      have zb' := Nat.lt_of_lt_of_le hb' hbel.size
      by_cases hlt : k < n
      · obtain ⟨a1, a2, a3, a4, p1, p2, p3, p4, e0, e1, e2, e3, e4⟩ := hx k hlt
        obtain ⟨b1, b2, b3, b4, q1, q2, q3, q4, d0, d1, d2, d3, d4⟩ := hy k hlt
        have x0 := (hbel.cell (p := ⟨b, k * 5, none⟩) hb).trans ((hc _ (by omega)).trans e0)
        have x1 := (hbel.cell (p := ⟨b, k * 5 + 1, none⟩) hb).trans ((hc _ (by omega)).trans e1)
        have x2 := (hbel.cell (p := ⟨b, k * 5 + 2, none⟩) hb).trans ((hc _ (by omega)).trans e2)
        have x3 := (hbel.cell (p := ⟨b, k * 5 + 3, none⟩) hb).trans ((hc _ (by omega)).trans e3)
        have x4 := (hbel.cell (p := ⟨b, k * 5 + 4, none⟩) hb).trans ((hc _ (by omega)).trans e4)
        have y0 := (hbel.cell (p := ⟨b', k * 5, none⟩) hb').trans ((hc' _ (by omega)).trans d0)
        have y1 := (hbel.cell (p := ⟨b', k * 5 + 1, none⟩) hb').trans ((hc' _ (by omega)).trans d1)
        have y2 := (hbel.cell (p := ⟨b', k * 5 + 2, none⟩) hb').trans ((hc' _ (by omega)).trans d2)
        have y3 := (hbel.cell (p := ⟨b', k * 5 + 3, none⟩) hb').trans ((hc' _ (by omega)).trans d3)
        have y4 := (hbel.cell (p := ⟨b', k * 5 + 4, none⟩) hb').trans ((hc' _ (by omega)).trans d4)
        have hk0 : (0 : Int) ≤ (k : Int) := Int.natCast_nonneg _
        have hk1 : (k : Int) < (n : Int) := by omega
        have HB := hid hbel
        clear hc hc' hbel hx hy e0 e1 e2 e3 e4 d0 d1 d2 d3 d4
        go_wp2_with fail
        refine wp_region_held_drew (S := fun w' => Below wr.heap.size wr w' ∧ w'.cell? ⟨b, k * 5, none⟩ = some (.int .i64 (f k)) ∧ w'.cell? ⟨b, k * 5 + 1, none⟩ = some (.slice a1 0 p1) ∧ w'.cell? ⟨b, k * 5 + 2, none⟩ = some (.slice a2 0 p2) ∧ w'.cell? ⟨b, k * 5 + 3, none⟩ = some (.slice a3 0 p3) ∧ w'.cell? ⟨b, k * 5 + 4, none⟩ = some (.slice a4 0 p4) ∧ w'.cell? ⟨b', k * 5, none⟩ = some (.int .i64 (f k)) ∧ w'.cell? ⟨b', k * 5 + 1, none⟩ = some (.slice b1 0 q1) ∧ w'.cell? ⟨b', k * 5 + 2, none⟩ = some (.slice b2 0 q2) ∧ w'.cell? ⟨b', k * 5 + 3, none⟩ = some (.slice b3 0 q3) ∧ w'.cell? ⟨b', k * 5 + 4, none⟩ = some (.slice b4 0 q4)) (by kernel_rfl) ⟨(Below.refl _ _).drew, x0, x1, x2, x3, x4, y0, y1, y2, y3, y4⟩ (fun hHeld => ?_)
        refine take1 (i := 0) (d := some 17) (v := ?_) (by kernel_rfl) (by kernel_rfl) (by kernel_rfl) (by kernel_rfl) (fun _ _ _ h => h) ?_ hHeld ?_
        rotate_left
        · (intro o ho; simp only [List.getElem?_toArray, List.getElem?_cons_succ, List.getElem?_cons_zero, Option.some.injEq] at ho; subst ho; refine Or.inl ⟨by rfl, ?_⟩; intro w hSw; (try dsimp only at hSw); go_simp; try with_reducible rfl)
        try simp only [Act.put, List.setIfInBounds_toArray, List.set_cons_zero, List.set_cons_succ]
        refine take1 (i := 1) (d := some 18) (v := ?_) (by kernel_rfl) (by kernel_rfl) (by kernel_rfl) (by kernel_rfl) (fun _ _ _ h => h) ?_ hHeld ?_
        rotate_left
        · (intro o ho; simp only [List.getElem?_toArray, List.getElem?_cons_succ, List.getElem?_cons_zero, Option.some.injEq] at ho; subst ho; refine Or.inl ⟨by rfl, ?_⟩; intro w hSw; (try dsimp only at hSw); go_simp; try with_reducible rfl)
        try simp only [Act.put, List.setIfInBounds_toArray, List.set_cons_zero, List.set_cons_succ]
        refine take1 (i := 2) (d := some 19) (v := ?_) (by kernel_rfl) (by kernel_rfl) (by kernel_rfl) (by kernel_rfl) (fun _ _ _ h => h) ?_ hHeld ?_
        rotate_left
        · (intro o ho; simp only [List.getElem?_toArray, List.getElem?_cons_succ, List.getElem?_cons_zero, Option.some.injEq] at ho; subst ho; refine Or.inl ⟨by rfl, ?_⟩; intro w hSw; (try dsimp only at hSw); go_simp; try with_reducible rfl)
        try simp only [Act.put, List.setIfInBounds_toArray, List.set_cons_zero, List.set_cons_succ]
        refine take1 (i := 3) (d := some 20) (v := ?_) (by kernel_rfl) (by kernel_rfl) (by kernel_rfl) (by kernel_rfl) (fun _ _ _ h => h) ?_ hHeld ?_
        rotate_left
        · (intro o ho; simp only [List.getElem?_toArray, List.getElem?_cons_succ, List.getElem?_cons_zero, Option.some.injEq] at ho; subst ho; refine Or.inl ⟨by rfl, ?_⟩; intro w hSw; (try dsimp only at hSw); go_simp; try with_reducible rfl)
        try simp only [Act.put, List.setIfInBounds_toArray, List.set_cons_zero, List.set_cons_succ]
        refine take1 (i := 4) (d := some 21) (v := ?_) (by kernel_rfl) (by kernel_rfl) (by kernel_rfl) (by kernel_rfl) (fun _ _ _ h => h) ?_ hHeld ?_
        rotate_left
        · (intro o ho; simp only [List.getElem?_toArray, List.getElem?_cons_succ, List.getElem?_cons_zero, Option.some.injEq] at ho; subst ho; refine Or.inl ⟨by rfl, ?_⟩; intro w hSw; (try dsimp only at hSw); go_simp; try with_reducible rfl)
        try simp only [Act.put, List.setIfInBounds_toArray, List.set_cons_zero, List.set_cons_succ]
        refine take1 (i := 5) (d := some 22) (v := ?_) (by kernel_rfl) (by kernel_rfl) (by kernel_rfl) (by kernel_rfl) (fun _ _ _ h => h) ?_ hHeld ?_
        rotate_left
        · (intro o ho; simp only [List.getElem?_toArray, List.getElem?_cons_succ, List.getElem?_cons_zero, Option.some.injEq] at ho; subst ho; refine Or.inl ⟨by rfl, ?_⟩; intro w hSw; (try dsimp only at hSw); go_simp; try with_reducible rfl)
        try simp only [Act.put, List.setIfInBounds_toArray, List.set_cons_zero, List.set_cons_succ]
        refine take1 (i := 6) (d := some 23) (v := ?_) (by kernel_rfl) (by kernel_rfl) (by kernel_rfl) (by kernel_rfl) (fun _ _ _ h => h) ?_ hHeld ?_
        rotate_left
        · (intro o ho; simp only [List.getElem?_toArray, List.getElem?_cons_succ, List.getElem?_cons_zero, Option.some.injEq] at ho; subst ho; refine Or.inl ⟨by rfl, ?_⟩; intro w hSw; (try dsimp only at hSw); go_simp; try with_reducible rfl)
        try simp only [Act.put, List.setIfInBounds_toArray, List.set_cons_zero, List.set_cons_succ]
        refine take1 (i := 7) (d := some 24) (v := ?_) (by kernel_rfl) (by kernel_rfl) (by kernel_rfl) (by kernel_rfl) (fun _ _ _ h => h) ?_ hHeld ?_
        rotate_left
        · (intro o ho; simp only [List.getElem?_toArray, List.getElem?_cons_succ, List.getElem?_cons_zero, Option.some.injEq] at ho; subst ho; refine Or.inl ⟨by rfl, ?_⟩; intro w hSw; (try dsimp only at hSw); go_simp; try with_reducible rfl)
        try simp only [Act.put, List.setIfInBounds_toArray, List.set_cons_zero, List.set_cons_succ]
        refine call1 (i := 8) (d := some 25) (by kernel_rfl) (by kernel_rfl) ?_
        intro o ho hod K hK; simp only [List.getElem?_toArray, List.getElem?_cons_succ, List.getElem?_cons_zero, Option.some.injEq] at ho; subst ho
        go_simp
        refine (eqRep0 (f k) _ _ ⟨_, _, _, _, _, _, _, _, rfl⟩ ⟨_, _, _, _, _, _, _, _, rfl⟩ _).mono ?_
        rintro e w2 ⟨rfl, b2⟩
        have hB := keepN hHeld.1 b2
        refine hK.out _ _ ⟨hB, (hB.cell (p := ⟨b, _, none⟩) zb).trans x0, (hB.cell (p := ⟨b, _, none⟩) zb).trans x1, (hB.cell (p := ⟨b, _, none⟩) zb).trans x2, (hB.cell (p := ⟨b, _, none⟩) zb).trans x3, (hB.cell (p := ⟨b, _, none⟩) zb).trans x4, (hB.cell (p := ⟨b', _, none⟩) zb').trans y0, (hB.cell (p := ⟨b', _, none⟩) zb').trans y1, (hB.cell (p := ⟨b', _, none⟩) zb').trans y2, (hB.cell (p := ⟨b', _, none⟩) zb').trans y3, (hB.cell (p := ⟨b', _, none⟩) zb').trans y4⟩ (fun hHeld => ?_)
        clear hK K
        try simp only [Act.put, List.setIfInBounds_toArray, List.set_cons_zero, List.set_cons_succ]
        refine take1 (i := 9) (d := some 26) (v := ?_) (by kernel_rfl) (by kernel_rfl) (by kernel_rfl) (by kernel_rfl) (fun _ _ _ h => h) ?_ hHeld ?_
        rotate_left
        · (intro o ho; simp only [List.getElem?_toArray, List.getElem?_cons_succ, List.getElem?_cons_zero, Option.some.injEq] at ho; subst ho; refine Or.inl ⟨by rfl, ?_⟩; intro w hSw; (try dsimp only at hSw); go_simp; try with_reducible rfl)
        try simp only [Act.put, List.setIfInBounds_toArray, List.set_cons_zero, List.set_cons_succ]
        refine wpAnyH_done (by kernel_rfl) ?_ _
        have HZ := hid hB
        clear hHeld hB b2
        go_wp2_with fail
        go_roundw
        case rel => exact ⟨k + 1, hlt, by go_num, HB.out.trans (HZ.out.mono HB.out.size)⟩
        case measure => simp [intOf]; omega
      · obtain rfl : k = n := by omega
        have HB := hid hbel
        clear hc hc' hbel hx hy
        go_wp2_with fail
        go_ret
        exact ⟨rfl, HB.out⟩

set_option maxRecDepth 100000 in
set_option maxHeartbeats 1000000 in
theorem eqPips (n : Nat) (v v' : Value) (f : Nat → Nat → Int) (xs ys : List Value) (w : World) (hn : n ≤ 1048576) (h : RdR w v n 6 xs) (h' : RdR w v' n 6 ys) (hx : PipX n f xs) (hy : PipX n f ys) :
    Calls Try.prog 29 #[v, v'] w fun e w' => e = .returned (.bool true) ∧ Below w.heap.size w w' := by
  obtain ⟨a, c, rfl, h⟩ := h
  obtain ⟨a', c', rfl, h'⟩ := h'
  by_cases h0 : n = 0
  · subst h0
    go_enter Try.func29, Try.ntmps29
    go_wp2_with fail
    refine wp_loop_rounds 1 ?_; rw [rounds_succ]; go_wp2_with fail
    go_ret
    exact ⟨rfl, Below.refl _ _⟩
  · rcases h with h | ⟨b, rfl, hb, hc⟩
    · exact absurd h h0
    rcases h' with h' | ⟨b', rfl, hb', hc'⟩
    · exact absurd h' h0
    go_enter Try.func29, Try.ntmps29
    go_wp2_with fail
    go_loopw [5] (fun i wr => ∃ k : Nat, k ≤ n ∧ i = .int .i64 k ∧ Below w.heap.size w wr) (fun i _ => n - (intOf i).toNat)
    case atStart => exact ⟨0, Nat.zero_le _, rfl, Below.refl _ _⟩
    case round =>
      obtain ⟨k, hk, rfl, hbel⟩ := hrel
      have zb := Nat.lt_of_lt_of_le hb hbel.size
      have zb' := Nat.lt_of_lt_of_le hb' hbel.size
      by_cases hlt : k < n
      · obtain ⟨a1, a2, p1, p2, e0, e1, e2, e3, e4, e5⟩ := hx k hlt
        obtain ⟨b1, b2, q1, q2, d0, d1, d2, d3, d4, d5⟩ := hy k hlt
        have x0 := (hbel.cell (p := ⟨b, k * 6, none⟩) hb).trans ((hc _ (by omega)).trans e0)
        have x1 := (hbel.cell (p := ⟨b, k * 6 + 1, none⟩) hb).trans ((hc _ (by omega)).trans e1)
        have x2 := (hbel.cell (p := ⟨b, k * 6 + 2, none⟩) hb).trans ((hc _ (by omega)).trans e2)
        have x3 := (hbel.cell (p := ⟨b, k * 6 + 3, none⟩) hb).trans ((hc _ (by omega)).trans e3)
        have x4 := (hbel.cell (p := ⟨b, k * 6 + 4, none⟩) hb).trans ((hc _ (by omega)).trans e4)
        have x5 := (hbel.cell (p := ⟨b, k * 6 + 5, none⟩) hb).trans ((hc _ (by omega)).trans e5)
        have y0 := (hbel.cell (p := ⟨b', k * 6, none⟩) hb').trans ((hc' _ (by omega)).trans d0)
        have y1 := (hbel.cell (p := ⟨b', k * 6 + 1, none⟩) hb').trans ((hc' _ (by omega)).trans d1)
        have y2 := (hbel.cell (p := ⟨b', k * 6 + 2, none⟩) hb').trans ((hc' _ (by omega)).trans d2)
        have y3 := (hbel.cell (p := ⟨b', k * 6 + 3, none⟩) hb').trans ((hc' _ (by omega)).trans d3)
        have y4 := (hbel.cell (p := ⟨b', k * 6 + 4, none⟩) hb').trans ((hc' _ (by omega)).trans d4)
        have y5 := (hbel.cell (p := ⟨b', k * 6 + 5, none⟩) hb').trans ((hc' _ (by omega)).trans d5)
        have hk0 : (0 : Int) ≤ (k : Int) := Int.natCast_nonneg _
        have hk1 : (k : Int) < (n : Int) := by omega
        have HB := hid hbel
        clear hc hc' hbel hx hy e0 e1 e2 e3 e4 e5 d0 d1 d2 d3 d4 d5
        go_wp2_with fail
        refine wp_region_held_drew (S := fun w' => Below wr.heap.size wr w' ∧ w'.cell? ⟨b, k * 6, none⟩ = some (.int .i64 (f k 0)) ∧ w'.cell? ⟨b, k * 6 + 1, none⟩ = some (.int .i64 (f k 1)) ∧ w'.cell? ⟨b, k * 6 + 2, none⟩ = some (.slice a1 0 p1) ∧ w'.cell? ⟨b, k * 6 + 3, none⟩ = some (.slice a2 0 p2) ∧ w'.cell? ⟨b, k * 6 + 4, none⟩ = some (.int .i64 (f k 2)) ∧ w'.cell? ⟨b, k * 6 + 5, none⟩ = some (.int .i64 (f k 3)) ∧ w'.cell? ⟨b', k * 6, none⟩ = some (.int .i64 (f k 0)) ∧ w'.cell? ⟨b', k * 6 + 1, none⟩ = some (.int .i64 (f k 1)) ∧ w'.cell? ⟨b', k * 6 + 2, none⟩ = some (.slice b1 0 q1) ∧ w'.cell? ⟨b', k * 6 + 3, none⟩ = some (.slice b2 0 q2) ∧ w'.cell? ⟨b', k * 6 + 4, none⟩ = some (.int .i64 (f k 2)) ∧ w'.cell? ⟨b', k * 6 + 5, none⟩ = some (.int .i64 (f k 3))) (by kernel_rfl) ⟨(Below.refl _ _).drew, x0, x1, x2, x3, x4, x5, y0, y1, y2, y3, y4, y5⟩ (fun hHeld => ?_)
        refine take1 (i := 0) (d := some 17) (v := ?_) (by kernel_rfl) (by kernel_rfl) (by kernel_rfl) (by kernel_rfl) (fun _ _ _ h => h) ?_ hHeld ?_
        rotate_left
        · (intro o ho; simp only [List.getElem?_toArray, List.getElem?_cons_succ, List.getElem?_cons_zero, Option.some.injEq] at ho; subst ho; refine Or.inl ⟨by rfl, ?_⟩; intro w hSw; (try dsimp only at hSw); go_simp; try with_reducible rfl)
        try simp only [Act.put, List.setIfInBounds_toArray, List.set_cons_zero, List.set_cons_succ]
        refine take1 (i := 1) (d := some 18) (v := ?_) (by kernel_rfl) (by kernel_rfl) (by kernel_rfl) (by kernel_rfl) (fun _ _ _ h => h) ?_ hHeld ?_
        rotate_left
        · (intro o ho; simp only [List.getElem?_toArray, List.getElem?_cons_succ, List.getElem?_cons_zero, Option.some.injEq] at ho; subst ho; refine Or.inl ⟨by rfl, ?_⟩; intro w hSw; (try dsimp only at hSw); go_simp; try with_reducible rfl)
        try simp only [Act.put, List.setIfInBounds_toArray, List.set_cons_zero, List.set_cons_succ]
        refine take1 (i := 2) (d := some 19) (v := ?_) (by kernel_rfl) (by kernel_rfl) (by kernel_rfl) (by kernel_rfl) (fun _ _ _ h => h) ?_ hHeld ?_
        rotate_left
        · (intro o ho; simp only [List.getElem?_toArray, List.getElem?_cons_succ, List.getElem?_cons_zero, Option.some.injEq] at ho; subst ho; refine Or.inl ⟨by rfl, ?_⟩; intro w hSw; (try dsimp only at hSw); go_simp; try with_reducible rfl)
        try simp only [Act.put, List.setIfInBounds_toArray, List.set_cons_zero, List.set_cons_succ]
        refine take1 (i := 3) (d := some 20) (v := ?_) (by kernel_rfl) (by kernel_rfl) (by kernel_rfl) (by kernel_rfl) (fun _ _ _ h => h) ?_ hHeld ?_
        rotate_left
        · (intro o ho; simp only [List.getElem?_toArray, List.getElem?_cons_succ, List.getElem?_cons_zero, Option.some.injEq] at ho; subst ho; refine Or.inl ⟨by rfl, ?_⟩; intro w hSw; (try dsimp only at hSw); go_simp; try with_reducible rfl)
        try simp only [Act.put, List.setIfInBounds_toArray, List.set_cons_zero, List.set_cons_succ]
        refine take1 (i := 4) (d := some 21) (v := ?_) (by kernel_rfl) (by kernel_rfl) (by kernel_rfl) (by kernel_rfl) (fun _ _ _ h => h) ?_ hHeld ?_
        rotate_left
        · (intro o ho; simp only [List.getElem?_toArray, List.getElem?_cons_succ, List.getElem?_cons_zero, Option.some.injEq] at ho; subst ho; refine Or.inl ⟨by rfl, ?_⟩; intro w hSw; (try dsimp only at hSw); go_simp; try with_reducible rfl)
        try simp only [Act.put, List.setIfInBounds_toArray, List.set_cons_zero, List.set_cons_succ]
        refine take1 (i := 5) (d := some 22) (v := ?_) (by kernel_rfl) (by kernel_rfl) (by kernel_rfl) (by kernel_rfl) (fun _ _ _ h => h) ?_ hHeld ?_
        rotate_left
        · (intro o ho; simp only [List.getElem?_toArray, List.getElem?_cons_succ, List.getElem?_cons_zero, Option.some.injEq] at ho; subst ho; refine Or.inl ⟨by rfl, ?_⟩; intro w hSw; (try dsimp only at hSw); go_simp; try with_reducible rfl)
        try simp only [Act.put, List.setIfInBounds_toArray, List.set_cons_zero, List.set_cons_succ]
        refine take1 (i := 6) (d := some 23) (v := ?_) (by kernel_rfl) (by kernel_rfl) (by kernel_rfl) (by kernel_rfl) (fun _ _ _ h => h) ?_ hHeld ?_
        rotate_left
        · (intro o ho; simp only [List.getElem?_toArray, List.getElem?_cons_succ, List.getElem?_cons_zero, Option.some.injEq] at ho; subst ho; refine Or.inl ⟨by rfl, ?_⟩; intro w hSw; (try dsimp only at hSw); go_simp; try with_reducible rfl)
        try simp only [Act.put, List.setIfInBounds_toArray, List.set_cons_zero, List.set_cons_succ]
        refine take1 (i := 7) (d := some 24) (v := ?_) (by kernel_rfl) (by kernel_rfl) (by kernel_rfl) (by kernel_rfl) (fun _ _ _ h => h) ?_ hHeld ?_
        rotate_left
        · (intro o ho; simp only [List.getElem?_toArray, List.getElem?_cons_succ, List.getElem?_cons_zero, Option.some.injEq] at ho; subst ho; refine Or.inl ⟨by rfl, ?_⟩; intro w hSw; (try dsimp only at hSw); go_simp; try with_reducible rfl)
        try simp only [Act.put, List.setIfInBounds_toArray, List.set_cons_zero, List.set_cons_succ]
        refine call1 (i := 8) (d := some 25) (by kernel_rfl) (by kernel_rfl) ?_
        intro o ho hod K hK; simp only [List.getElem?_toArray, List.getElem?_cons_succ, List.getElem?_cons_zero, Option.some.injEq] at ho; subst ho
        go_simp
        refine (eqPipe0 (f k 0) (f k 1) (f k 2) (f k 3) _ _ ⟨_, _, _, _, rfl⟩ ⟨_, _, _, _, rfl⟩ _).mono ?_
        rintro e w2 ⟨rfl, b2⟩
        have hB := keepN hHeld.1 b2
        refine hK.out _ _ ⟨hB, (hB.cell (p := ⟨b, _, none⟩) zb).trans x0, (hB.cell (p := ⟨b, _, none⟩) zb).trans x1, (hB.cell (p := ⟨b, _, none⟩) zb).trans x2, (hB.cell (p := ⟨b, _, none⟩) zb).trans x3, (hB.cell (p := ⟨b, _, none⟩) zb).trans x4, (hB.cell (p := ⟨b, _, none⟩) zb).trans x5, (hB.cell (p := ⟨b', _, none⟩) zb').trans y0, (hB.cell (p := ⟨b', _, none⟩) zb').trans y1, (hB.cell (p := ⟨b', _, none⟩) zb').trans y2, (hB.cell (p := ⟨b', _, none⟩) zb').trans y3, (hB.cell (p := ⟨b', _, none⟩) zb').trans y4, (hB.cell (p := ⟨b', _, none⟩) zb').trans y5⟩ (fun hHeld => ?_)
        clear hK K
        try simp only [Act.put, List.setIfInBounds_toArray, List.set_cons_zero, List.set_cons_succ]
        refine take1 (i := 9) (d := some 26) (v := ?_) (by kernel_rfl) (by kernel_rfl) (by kernel_rfl) (by kernel_rfl) (fun _ _ _ h => h) ?_ hHeld ?_
        rotate_left
        · (intro o ho; simp only [List.getElem?_toArray, List.getElem?_cons_succ, List.getElem?_cons_zero, Option.some.injEq] at ho; subst ho; refine Or.inl ⟨by rfl, ?_⟩; intro w hSw; (try dsimp only at hSw); go_simp; try with_reducible rfl)
        try simp only [Act.put, List.setIfInBounds_toArray, List.set_cons_zero, List.set_cons_succ]
        refine wpAnyH_done (by kernel_rfl) ?_ _
        have HZ := hid hB
        clear hHeld hB b2
        go_wp2_with fail
        go_roundw
        case rel => exact ⟨k + 1, hlt, by go_num, HB.out.trans (HZ.out.mono HB.out.size)⟩
        case measure => simp [intOf]; omega
      · obtain rfl : k = n := by omega
        have HB := hid hbel
        clear hc hc' hbel hx hy
        go_wp2_with fail
        go_ret
        exact ⟨rfl, HB.out⟩

set_option maxHeartbeats 400000 in
theorem eqWld (n m : Nat) (r r' p p' : Value) (f : Nat → Int) (g : Nat → Nat → Int) (xs xs' ys ys' : List Value) (w : World) (hn : n ≤ 1048576) (hm : m ≤ 1048576) (h1 : RdR w r n 5 xs) (h2 : RdR w r' n 5 xs') (h3 : RdR w p m 6 ys) (h4 : RdR w p' m 6 ys') (k1 : RepX n f xs) (k2 : RepX n f xs') (k3 : PipX m g ys) (k4 : PipX m g ys') :
    Calls Try.prog 8 #[.agg #[r, p], .agg #[r', p']] w fun e w' => e = .returned (.bool true) ∧ Below w.heap.size w w' := by
  have b0 : Below w.heap.size w ((w.alloc (.cells #[r, p] 25)).alloc (.cells #[r', p'] 25)) := ((Below.refl _ _).alloc (Nat.le_refl _) _).alloc (by simp) _
  have HE := hid (eqReps n r r' f xs xs' _ hn (h1.below b0 (Nat.le_refl _)) (h2.below b0 (Nat.le_refl _)) k1 k2)
  have HP : Hid (∀ w2, Below w.heap.size w w2 → Calls Try.prog 29 #[p, p'] w2 fun e w' => e = .returned (.bool true) ∧ Below w2.heap.size w2 w') := hid (fun w2 hb => eqPips m p p' g ys ys' w2 hm (h3.below hb (Nat.le_refl _)) (h4.below hb (Nat.le_refl _)) k3 k4)
  obtain ⟨ra, rc, rfl, _⟩ := h1
  obtain ⟨ra', rc', rfl, _⟩ := h2
  obtain ⟨pa, pc, rfl, _⟩ := h3
  obtain ⟨pa', pc', rfl, _⟩ := h4
  have B0 := hid b0
  clear b0 k1 k2 k3 k4
  go_enter Try.func8, Try.ntmps8
  go_wp2_with fail
  refine HE.out.mono ?_
  rintro e w1 ⟨rfl, b1⟩
  have k1 := b1.cell (p := ⟨w.heap.size, 1, none⟩) (by simp; omega)
  have k2 := b1.cell (p := ⟨w.heap.size + 1, 1, none⟩) (by simp)
  simp at k1 k2
  have B1 := hid (keepN B0.out b1)
  clear b1 HE B0
  go_wp2_with fail
  refine (HP.out w1 B1.out).mono ?_
  rintro e w2 ⟨rfl, b2⟩
  have B2 := hid (keepN B1.out b2)
  clear b2 k1 k2 HP B1
  go_wp2_with fail
  go_ret
  exact ⟨rfl, B2.out⟩
end Go.Proofs.Ytbimcammjohaoae.fnExactNewWorld
