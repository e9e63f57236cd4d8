import Derived.Test.YtbimcammjohaoabDoorFg
namespace Go.Proofs.YtbimcammjohaoabDoor
open Go.ChangeShapes Go.WideShapes Go.ChangeAt Go.RowKit
set_option linter.unusedVariables false
set_option linter.unusedSimpArgs false

def SegB (w : World) (B : Nat) (a : Option Addr) (n : Nat) (f : Nat → Int) : Prop :=
  n = 0 ∨ ∃ b off, a = some ⟨b, off, none⟩ ∧ B ≤ b ∧ b < w.heap.size ∧ ∀ i, i < n → w.cell? ⟨b, off + i, none⟩ = some (.int .u8 (f i))
theorem SegB.seg {w : World} {B : Nat} {a : Option Addr} {n : Nat} {f : Nat → Int} (h : SegB w B a n f) : Seg w a n f := by
  refine h.imp id ?_
  rintro ⟨b, off, e, _, hb, hc⟩
  exact ⟨b, off, e, hb, hc⟩
theorem SegB.gr {w w' : World} {B : Nat} {a : Option Addr} {n : Nat} {f : Nat → Int} {row : Option Nat} (h : SegB w B a n f) (hg : w.grownBy w' row) (hr : ∀ k, row = some k → k < B) : SegB w' B a n f := by
  refine h.imp id ?_
  rintro ⟨b, off, e, hB, hb, hc⟩
  exact ⟨b, off, e, hB, Nat.lt_of_lt_of_le hb hg.size, fun i hi => hg.cell (hc i hi) (fun e => by have := hr b e.symm; omega)⟩
theorem SegB.below {w w' : World} {B : Nat} {a : Option Addr} {n : Nat} {f : Nat → Int} (h : SegB w B a n f) (hb : Below w.heap.size w w') : SegB w' B a n f :=
  h.gr (row := none) ⟨hb.os, hb.tape, hb.output, hb.size, fun k hk _ => hb.block k hk⟩ (by simp)
theorem own_some {w : World} {B : Nat} {v : Value} {zs : List Int} (h : Own w B v zs) (hn : v.ownBlock ≠ none) : ∃ g cap, v = .slice (some ⟨g, 0, none⟩) zs.length cap ∧ B ≤ g ∧ zs.length ≤ cap ∧ cap ≤ 9223372036854775807 ∧ SegB w B (some ⟨g, 0, none⟩) zs.length (gz zs) := by
  have h0 := h
  have hlt := World.ownsRow.lt h
  obtain ⟨a, cap', e, s⟩ := h.any
  obtain ⟨_, h2⟩ := h
  rcases h2 with ⟨rfl, _⟩ | ⟨g, cap, cur, rfl, hbg, hg, hnc, hcm, _⟩
  · exact absurd rfl hn
  · refine ⟨g, cap, rfl, hbg, hnc, by unfold maxLen at hcm; omega, ?_⟩
    injection e with e1 _ _
    subst e1
    rcases s with s | ⟨b, off, e, hb, hc⟩
    · exact .inl s
    · injection e with e; injection e with e1 e2 _
      subst e1 e2
      exact .inr ⟨_, _, rfl, hbg, hb, hc⟩
def lenOf : Value → Nat
  | .slice _ n _ => n
  | _ => 0
theorem fxw_form {w : World} {B : Nat} {v : Value} {l : List Fx} (h : FxW w B v l) (hn : v.ownBlock ≠ none) : ∃ g cap, v = .slice (some ⟨g, 0, none⟩) l.length cap ∧ B ≤ g := by
  obtain ⟨_, h2⟩ := h.row
  rcases h2 with ⟨rfl, _⟩ | ⟨g, cap, cur, rfl, hbg, _⟩
  · exact absurd rfl hn
  · exact ⟨g, cap, rfl, hbg⟩
theorem FxW.blk {w : World} {B : Nat} {v : Value} {l : List Fx} (h : FxW w B v l) : (∀ k, v.ownBlock = some k → B ≤ k) ∧ ∀ i, i < l.length → ∀ k, (gFx l i).2.1.ownBlock = some k → B ≤ k :=
  ⟨fun k hk => (World.ownsRow.lt h.row k hk).1, fun i hi k hk => (World.ownsRow.lt (h.pay i hi) k hk).1⟩
theorem FxW.below {w w' : World} {B : Nat} {v : Value} {l : List Fx} (h : FxW w B v l) (hb : Below w.heap.size w w') : FxW w' B v l :=
  h.kept (row := none) ⟨hb.os, hb.tape, hb.output, hb.size, fun k hk _ => hb.block k hk⟩ (by simp)
theorem Tryd.infoFrame : (Tryd.prog.info? 29).map (fun i => (i.zero, i.size, i.bytes)) = some (some (.agg #[.int .i64 0, .slice none 0 0]), 2, 32) := by kernel_rfl
theorem cell2A (w : World) (a b : Value) (t : TypeId) : ∀ j u, [a, b][j]? = some u → (w.alloc (.cells #[a, b] t)).cell? ((⟨w.heap.size, 0, none⟩ : Addr).add j) = some u := by
  intro j u hj
  match j, hj with
  | 0, hj => simp at hj; subst hj; simp [Addr.add]
  | 1, hj => simp at hj; subst hj; simp [Addr.add]
theorem wrapAdd (tk : Int) (p y : Nat) : IntKind.i64.wrap (IntKind.i64.wrap (tk + (p : Int)) + (y : Int)) = IntKind.i64.wrap (tk + ((p + y : Nat) : Int)) := by
  simp only [IntKind.wrap_i64]; push_cast; omega

noncomputable def restF (F : Nat → Int) (N : Nat) : Nat := if (feedF F N 0).1 = 0 then N - (feedF F N 0).2.1 else 0

structure LpI (w wr : World) (F : Nat → Int) (N : Nat) (R : Nat × Nat × List (Int × List Int)) (p : Nat) (bv fv : Value) (l : List Fx) : Prop where
  bel : Below w.heap.size w wr
  sz : w.heap.size + 4 ≤ wr.heap.size
  r0 : ∃ u, wr.cell? ⟨w.heap.size + 1, 0, none⟩ = some u
  r1 : ∃ u, wr.cell? ⟨w.heap.size + 1, 1, none⟩ = some u
  r2 : ∃ u, wr.cell? ⟨w.heap.size + 1, 2, none⟩ = some u
  z0 : wr.frozen? ⟨w.heap.size + 1, 0, none⟩ = false
  z1 : wr.frozen? ⟨w.heap.size + 1, 1, none⟩ = false
  z2 : wr.frozen? ⟨w.heap.size + 1, 2, none⟩ = false
  le : p ≤ N
  buf : ∃ a c, bv = .slice a (N - p) c ∧ SegB wr (w.heap.size + 2) a (N - p) (shF F p) ∧ N - p ≤ c ∧ c ≤ 9223372036854775807
  fr : FxW wr (w.heap.size + 2) fv l
  frn : fv.ownBlock ≠ none
  t1 : (feedF F N p).1 = R.1
  t2 : (feedF F N p).2.1 = R.2.1
  t3 : l.map prFx ++ (feedF F N p).2.2 = R.2.2
  ll : l.length ≤ p
  far : ∀ i, i < l.length → ∀ b, (gFx l i).2.1.ownBlock = some b → fv.ownBlock ≠ some b
  sep : ∀ b, bv.ownBlock = some b → fv.ownBlock ≠ some b

theorem own_weak {w : World} {B B' : Nat} {v : Value} {zs : List Int} (h : Own w B v zs) (hB : B' ≤ B) : Own w B' v zs := by
  obtain ⟨h1, h2⟩ := h
  refine ⟨h1, h2.imp id ?_⟩
  rintro ⟨g, cap, cur, e, hg, r⟩
  exact ⟨g, cap, cur, e, Nat.le_trans hB hg, r⟩
theorem gFx_left {l r : List Fx} {i : Nat} (hi : i < l.length) : gFx (l ++ r) i = gFx l i := by
  simp [gFx, List.getD, List.getElem?_append_left hi]
theorem gFx_last (l : List Fx) (x : Fx) : gFx (l ++ [x]) l.length = x := by
  simp [gFx, List.getD]
theorem LpI.step {w wr w0 w9 : World} {F : Nat → Int} {N p c gf cpf b off y pc : Nat} {R : Nat × Nat × List (Int × List Int)} {l : List Fx} {kd : Int} {pa : Option Addr} {pl : List Int} {v9 : Value}
    (h : LpI w wr F N R p (.slice (some ⟨b, off, none⟩) (N - p) c) (.slice (some ⟨gf, 0, none⟩) l.length cpf) l) (b0 : Below wr.heap.size wr w0) (ov : Own w0 wr.heap.size (.slice pa pl.length pc) pl) (gg : w0.grownBy w9 (some gf))
    (hown : w9.ownsRow (w.heap.size + 2) 29 2 v9 (l.length + 1) (fxCells l ++ [.int .i64 kd, .slice pa pl.length pc])) (hloc : v9.ownBlock = some gf ∨ ∃ k, v9.ownBlock = some k ∧ w0.heap.size ≤ k)
    (hgo : feedF F N p = ((feedF F N (p + y)).1, (feedF F N (p + y)).2.1, (kd, pl) :: (feedF F N (p + y)).2.2)) (hy : y ≠ 0) (hyM : y ≤ N - p) :
    LpI w w9 F N R (p + y) (.slice (if c = y then some ⟨b, off, none⟩ else some ⟨b, off + y, none⟩) (N - p - y) (c - y)) v9 (l ++ [(kd, .slice pa pl.length pc, pl)]) := by
  have hgf := World.ownsRow.lt h.fr.row gf rfl
  have hsz := h.sz
  have z0 := b0.size
  have fr0 := h.fr.below b0
  have BB : Below (w.heap.size + 2) wr w9 := (b0.mono (by omega)).grown gg (by omega) (fun k hk => by injection hk with hk; omega)
  have cr := fun i => BB.cell (p := ⟨w.heap.size + 1, i, none⟩) (show w.heap.size + 1 < w.heap.size + 2 by omega)
  have cf := fun i => BB.frozen (p := ⟨w.heap.size + 1, i, none⟩) (show w.heap.size + 1 < w.heap.size + 2 by omega)
  have hv9 : ∀ k, v9.ownBlock = some k → k = gf ∨ w0.heap.size ≤ k := fun k hk => by
    rcases hloc with e | ⟨j, e, hj⟩
    · rw [e] at hk; injection hk with hk; exact .inl hk.symm
    · rw [e] at hk; injection hk with hk; exact .inr (by omega)
  have hpn : ∀ k, (Value.slice pa pl.length pc).ownBlock = some k → wr.heap.size ≤ k ∧ k < w0.heap.size := fun k hk => World.ownsRow.lt ov k hk
  have hold : ∀ i, i < l.length → ∀ k, (gFx l i).2.1.ownBlock = some k → k ≠ gf ∧ k < wr.heap.size := fun i hi k hk =>
    ⟨fun e => h.far i hi k hk (by rw [e]; rfl), (World.ownsRow.lt (h.fr.pay i hi) k hk).2⟩
  obtain ⟨a', c', e', sb, hc1, hc2⟩ := h.buf
  injection e' with e1 _ e2
  subst e1 e2
  have t1 := h.t1
  have t2 := h.t2
  have t3 := h.t3
  rw [hgo] at t1 t2 t3
  have hbgf : b ≠ gf := fun e => h.sep b rfl (by rw [e]; rfl)
  obtain ⟨u0, r0⟩ := h.r0
  obtain ⟨u1, r1⟩ := h.r1
  obtain ⟨u2, r2⟩ := h.r2
  have hle := h.le
  refine ⟨h.bel.trans (BB.mono (by omega)), by have := gg.size; omega, ⟨u0, (cr 0).trans r0⟩, ⟨u1, (cr 1).trans r1⟩, ⟨u2, (cr 2).trans r2⟩, (cf 0).trans h.z0, (cf 1).trans h.z1, (cf 2).trans h.z2, by omega, ?_, ?_, ?_, t1, t2, ?_, ?_, ?_, ?_⟩
  · refine ⟨_, c - y, by rw [Nat.sub_sub], ?_, by omega, by omega⟩
    by_cases hz : N - (p + y) = 0
    · exact .inl hz
    · have hcy : ¬ c = y := by omega
      rw [if_neg hcy]
      rcases sb with s | ⟨b', off', e, hB, hb, hc⟩
      · omega
      · injection e with e; injection e with e1 e2 _
        subst e1 e2
        refine .inr ⟨b, off + y, rfl, hB, by have := gg.size; omega, fun i hi => ?_⟩
        have q := (b0.cell (p := ⟨b, off + (y + i), none⟩) hb).trans (hc (y + i) (by omega))
        have q2 := gg.cell q (fun e => by injection e with e; exact hbgf e)
        rw [Nat.add_assoc]
        rw [q2]
        simp [shF, Nat.add_assoc]
  · refine ⟨?_, fun i hi => ?_⟩
    · have e : fxCells (l ++ [(kd, .slice pa pl.length pc, pl)]) = fxCells l ++ [.int .i64 kd, .slice pa pl.length pc] := by simp [fxCells]
      rw [e, List.length_append]; exact hown
    · by_cases hil : i < l.length
      · rw [gFx_left hil]
        exact (fr0.pay i hil).gr gg (fun k hk e => by injection e with e; exact (hold i hil k hk).1 e)
      · have e : i = l.length := by simp at hi; omega
        subst e
        rw [gFx_last]
        exact (own_weak ov (by omega)).gr gg (fun k hk e => by injection e with e; have := hpn k hk; omega)
  · rcases hloc with e | ⟨k, e, _⟩ <;> rw [e] <;> simp
  · rw [List.map_append, List.append_assoc]; exact t3
  · rw [List.length_append]; have := h.ll; show l.length + 1 ≤ p + y; omega
  · intro i hi k hk e
    by_cases hil : i < l.length
    · rw [gFx_left hil] at hk
      have := hold i hil k hk
      rcases hv9 k e with e | e
      · exact this.1 e
      · omega
    · have e' : i = l.length := by simp at hi; omega
      subst e'
      rw [gFx_last] at hk
      have := hpn k hk
      rcases hv9 k e with e | e <;> omega
  · intro k hk e
    have hkb : k = b := by
      by_cases hcy : c = y
      · rw [if_pos hcy] at hk; simp [Value.ownBlock] at hk; exact hk.symm
      · rw [if_neg hcy] at hk; simp [Value.ownBlock] at hk; exact hk.symm
    subst hkb
    rcases sb with s | ⟨b', off', e', hB, hb, hc⟩
    · omega
    · injection e' with e'; injection e' with e1 e2 _
      subst e1 e2
      rcases hv9 _ e with e | e
      · exact hbgf e
      · omega

theorem run_app_none {P : Program} (w : World) (t ty e : TypeId) (i : TypeInfo) (ht : P.underlying t = some (.slice e)) (hi : P.info? e = some i) (base : Option Addr) (n cap c' : Nat) (h : n ≤ cap) :
    (Builtin.append_ #[t, t] ty #[.slice base n cap, .slice none 0 c']).run P w = .ok (.slice base n cap) w := by
  cases base <;> simp [Builtin.append_, run_underlying ht, sizeOf, typeInfo, hi, Builtin.lenOf, Builtin.firstCells, storeCells, loadCells, loadCellsFrom, h, Result.andThen]

theorem wpList_app_sg {w : World} {ops : Array Oper} {rest : List Oper} {o : Oper} {a : Act} {Q : Exit → Act → World → Prop} (hgd : o.guard = none) (s x : Operand)
    (ho : o.op = .call { callee := .builtin .append, args := #[s, x], argTypes := #[22, 22] }) (base : Nat) (v : Value) (n : Nat) (xs : List Value) (hs : a.eval s = v) (hown : w.ownsRow base 5 1 v n xs)
    (a1 : Option Addr) (n1 c1 : Nat) (f : Nat → Int) (hx : a.eval x = .slice a1 n1 c1) (hseg : Seg w a1 n1 f) (h63 : n + n1 ≤ maxLen) (hbytes : (n + n1) * 1 ≤ 140737488355328) (hbase : base ≤ w.heap.size)
    (h : ∀ v' w', w'.ownsRow base 5 1 v' (n + n1) (xs ++ cells8 f n1) → w.grownBy w' v.ownBlock → (v'.ownBlock = v.ownBlock ∨ v'.ownBlock = some w.heap.size) → wpList Tryd.prog ops Q rest (a.put o.dst v') w') : wpList Tryd.prog ops Q (o :: rest) a w := by
  obtain ⟨i0, hi, hz0, hz1, hz2⟩ := info_parts Tryd.infoByte
  rcases a1 with _ | ad
  · obtain rfl : n1 = 0 := by
      rcases hseg with h0 | ⟨_, _, e, _⟩
      · exact h0
      · cases e
    obtain ⟨b, cap, e, hle⟩ : ∃ b cap, v = .slice b n cap ∧ n ≤ cap := by
      rcases hown.2 with ⟨e, e0⟩ | ⟨g, cap, cur, e, _, _, hnc, _⟩
      · exact ⟨none, 0, by rw [e, e0], by omega⟩
      · exact ⟨_, cap, e, hnc⟩
    refine wpList_plain hgd fun _ hK => ?_
    unfold Oper.wp execOp
    rw [e] at hs
    simp only [ho, resolve, invoke, builtin, Sem.run_bind, Sem.run_pure, Result.andThen_ok, List.map_toArray, List.map_cons, List.map_nil, hs, hx, run_app_none w _ _ _ i0 Tryd.underlying22 hi b n cap c1 hle]
    refine hK _ _ (h _ _ ?_ ⟨rfl, rfl, rfl, Nat.le_refl _, fun _ _ _ => rfl⟩ (.inl (by rw [e])))
    have e0 : cells8 f 0 = [] := by simp [cells8]
    rw [e0, List.append_nil, ← e]; exact hown
  · by_cases h0 : n1 = 0
    · subst h0
      refine wpList_app_at hgd s x 22 ho base 5 i0 (.int .u8 0) 1 1 Tryd.underlying22 hi hz0 hz1 hz2 rfl (by decide) v n xs hs hown ad 0 c1 [] hx rfl (fun j u hj => by simp at hj) (fun u hu => by simp at hu) h63 hbytes hbase ?_
      have e0 : cells8 f 0 = [] := by simp [cells8]
      rw [e0] at h
      exact h
    · rcases hseg with h1 | ⟨b, off, e, hb, hc⟩
      · exact absurd h1 h0
      · injection e with e
        subst e
        have hnw : ∀ j u, (cells8 f n1)[j]? = some u → w.cell? ((⟨b, off, none⟩ : Addr).add j) = some u := by
          have := news_at (at' := 0) (l := n1) hc (by omega)
          simpa using this
        exact wpList_app_at hgd s x 22 ho base 5 i0 (.int .u8 0) 1 1 Tryd.underlying22 hi hz0 hz1 hz2 rfl (by decide) v n xs hs hown ⟨b, off, none⟩ n1 c1 (cells8 f n1) hx (by simp [cells8]) hnw (by intro u hu; obtain ⟨i, _, rfl⟩ := List.mem_map.1 hu; rfl) h63 hbytes hbase h

end Go.Proofs.YtbimcammjohaoabDoor
