import Derived.Test.YthkppnmnjboiaaaDoorFg
namespace Go.Proofs.YthkppnmnjboiaaaDoor
open Go.ChangeShapes Go.WideShapes Go.ChangeAt Go.RowKit
set_option linter.unusedVariables false
set_option linter.unusedSimpArgs false

def SegB (w : World) (B : Nat) (a : Option Addr) (n : Nat) (f : Nat → Int) : Prop :=
  n = 0 ∨ ∃ b off, a = some ⟨b, off, none⟩ ∧ B ≤ b ∧ b < w.heap.size ∧ ∀ i, i < n → w.cell? ⟨b, off + i, none⟩ = some (.int .u8 (f i))
theorem SegB.seg {w : World} {B : Nat} {a : Option Addr} {n : Nat} {f : Nat → Int} (h : SegB w B a n f) : Seg w a n f := by
  refine h.imp id ?_
  rintro ⟨b, off, e, _, hb, hc⟩
  exact ⟨b, off, e, hb, hc⟩
theorem SegB.gr {w w' : World} {B : Nat} {a : Option Addr} {n : Nat} {f : Nat → Int} {row : Option Nat} (h : SegB w B a n f) (hg : w.grownBy w' row) (hr : ∀ k, row = some k → k < B) : SegB w' B a n f := by
  refine h.imp id ?_
  rintro ⟨b, off, e, hB, hb, hc⟩
  exact ⟨b, off, e, hB, Nat.lt_of_lt_of_le hb hg.size, fun i hi => hg.cell (hc i hi) (fun e => by have := hr b e.symm; omega)⟩
theorem SegB.below {w w' : World} {B : Nat} {a : Option Addr} {n : Nat} {f : Nat → Int} (h : SegB w B a n f) (hb : Below w.heap.size w w') : SegB w' B a n f :=
  h.gr (row := none) ⟨hb.os, hb.tape, hb.output, hb.size, fun k hk _ => hb.block k hk⟩ (by simp)
theorem own_some {w : World} {B : Nat} {v : Value} {zs : List Int} (h : Own w B v zs) (hn : v.ownBlock ≠ none) : ∃ g cap, v = .slice (some ⟨g, 0, none⟩) zs.length cap ∧ B ≤ g ∧ zs.length ≤ cap ∧ cap ≤ 9223372036854775807 ∧ SegB w B (some ⟨g, 0, none⟩) zs.length (gz zs) := by
  have h0 := h
  have hlt := World.ownsRow.lt h
  obtain ⟨a, cap', e, s⟩ := h.any
  obtain ⟨_, h2⟩ := h
  rcases h2 with ⟨rfl, _⟩ | ⟨g, cap, cur, rfl, hbg, hg, hnc, hcm, _⟩
  · exact absurd rfl hn
  · refine ⟨g, cap, rfl, hbg, hnc, by unfold maxLen at hcm; omega, ?_⟩
    injection e with e1 _ _
    subst e1
    rcases s with s | ⟨b, off, e, hb, hc⟩
    · exact .inl s
    · injection e with e; injection e with e1 e2 _
      subst e1 e2
      exact .inr ⟨_, _, rfl, hbg, hb, hc⟩
def lenOf : Value → Nat
  | .slice _ n _ => n
  | _ => 0
theorem fxw_form {w : World} {B : Nat} {v : Value} {l : List Fx} (h : FxW w B v l) (hn : v.ownBlock ≠ none) : ∃ g cap, v = .slice (some ⟨g, 0, none⟩) l.length cap ∧ B ≤ g := by
  obtain ⟨_, h2⟩ := h.row
  rcases h2 with ⟨rfl, _⟩ | ⟨g, cap, cur, rfl, hbg, _⟩
  · exact absurd rfl hn
  · exact ⟨g, cap, rfl, hbg⟩
theorem FxW.blk {w : World} {B : Nat} {v : Value} {l : List Fx} (h : FxW w B v l) : (∀ k, v.ownBlock = some k → B ≤ k) ∧ ∀ i, i < l.length → ∀ k, (gFx l i).2.1.ownBlock = some k → B ≤ k :=
  ⟨fun k hk => (World.ownsRow.lt h.row k hk).1, fun i hi k hk => (World.ownsRow.lt (h.pay i hi) k hk).1⟩
theorem FxW.below {w w' : World} {B : Nat} {v : Value} {l : List Fx} (h : FxW w B v l) (hb : Below w.heap.size w w') : FxW w' B v l :=
  h.kept (row := none) ⟨hb.os, hb.tape, hb.output, hb.size, fun k hk _ => hb.block k hk⟩ (by simp)
theorem Tryd.infoFrame : (Tryd.prog.info? 41).map (fun i => (i.zero, i.size, i.bytes)) = some (some (.agg #[.int .i64 0, .slice none 0 0]), 2, 32) := by kernel_rfl
theorem cell2A (w : World) (a b : Value) (t : TypeId) : ∀ j u, [a, b][j]? = some u → (w.alloc (.cells #[a, b] t)).cell? ((⟨w.heap.size, 0, none⟩ : Addr).add j) = some u := by
  intro j u hj
  match j, hj with
  | 0, hj => simp at hj; subst hj; simp [Addr.add]
  | 1, hj => simp at hj; subst hj; simp [Addr.add]
theorem wrapAdd (tk : Int) (p y : Nat) : IntKind.i64.wrap (IntKind.i64.wrap (tk + (p : Int)) + (y : Int)) = IntKind.i64.wrap (tk + ((p + y : Nat) : Int)) := by
  simp only [IntKind.wrap_i64]; push_cast; omega

noncomputable def restF (F : Nat → Int) (N : Nat) : Nat := if (feedF F N 0).1 = 0 then N - (feedF F N 0).2.1 else 0

structure LpI (w wr : World) (F : Nat → Int) (N : Nat) (R : Nat × Nat × List (Int × List Int)) (p : Nat) (bv fv : Value) (l : List Fx) : Prop where
  bel : Below w.heap.size w wr
  sz : w.heap.size + 4 ≤ wr.heap.size
  r0 : ∃ u, wr.cell? ⟨w.heap.size + 1, 0, none⟩ = some u
  r1 : ∃ u, wr.cell? ⟨w.heap.size + 1, 1, none⟩ = some u
  r2 : ∃ u, wr.cell? ⟨w.heap.size + 1, 2, none⟩ = some u
  z0 : wr.frozen? ⟨w.heap.size + 1, 0, none⟩ = false
  z1 : wr.frozen? ⟨w.heap.size + 1, 1, none⟩ = false
  z2 : wr.frozen? ⟨w.heap.size + 1, 2, none⟩ = false
  le : p ≤ N
  buf : ∃ a c, bv = .slice a (N - p) c ∧ SegB wr (w.heap.size + 2) a (N - p) (shF F p) ∧ N - p ≤ c ∧ c ≤ 9223372036854775807
  fr : FxW wr (w.heap.size + 2) fv l
  frn : fv.ownBlock ≠ none
  t1 : (feedF F N p).1 = R.1
  t2 : (feedF F N p).2.1 = R.2.1
  t3 : l.map prFx ++ (feedF F N p).2.2 = R.2.2
  ll : l.length ≤ p
  far : ∀ i, i < l.length → ∀ b, (gFx l i).2.1.ownBlock = some b → fv.ownBlock ≠ some b
  sep : ∀ b, bv.ownBlock = some b → fv.ownBlock ≠ some b

theorem own_weak {w : World} {B B' : Nat} {v : Value} {zs : List Int} (h : Own w B v zs) (hB : B' ≤ B) : Own w B' v zs := by
  obtain ⟨h1, h2⟩ := h
  refine ⟨h1, h2.imp id ?_⟩
  rintro ⟨g, cap, cur, e, hg, r⟩
  exact ⟨g, cap, cur, e, Nat.le_trans hB hg, r⟩
theorem gFx_left {l r : List Fx} {i : Nat} (hi : i < l.length) : gFx (l ++ r) i = gFx l i := by
  simp [gFx, List.getD, List.getElem?_append_left hi]
theorem gFx_last (l : List Fx) (x : Fx) : gFx (l ++ [x]) l.length = x := by
  simp [gFx, List.getD]
theorem LpI.step {w wr w0 w9 : World} {F : Nat → Int} {N p c gf cpf b off y pc : Nat} {R : Nat × Nat × List (Int × List Int)} {l : List Fx} {kd : Int} {pa : Option Addr} {pl : List Int} {v9 : Value}
    (h : LpI w wr F N R p (.slice (some ⟨b, off, none⟩) (N - p) c) (.slice (some ⟨gf, 0, none⟩) l.length cpf) l) (b0 : Below wr.heap.size wr w0) (ov : Own w0 wr.heap.size (.slice pa pl.length pc) pl) (gg : w0.grownBy w9 (some gf))
    (hown : w9.ownsRow (w.heap.size + 2) 41 2 v9 (l.length + 1) (fxCells l ++ [.int .i64 kd, .slice pa pl.length pc])) (hloc : v9.ownBlock = some gf ∨ ∃ k, v9.ownBlock = some k ∧ w0.heap.size ≤ k)
    (hgo : feedF F N p = ((feedF F N (p + y)).1, (feedF F N (p + y)).2.1, (kd, pl) :: (feedF F N (p + y)).2.2)) (hy : y ≠ 0) (hyM : y ≤ N - p) :
    LpI w w9 F N R (p + y) (.slice (if c = y then some ⟨b, off, none⟩ else some ⟨b, off + y, none⟩) (N - p - y) (c - y)) v9 (l ++ [(kd, .slice pa pl.length pc, pl)]) := by
  have hgf := World.ownsRow.lt h.fr.row gf rfl
  have hsz := h.sz
  have z0 := b0.size
  have fr0 := h.fr.below b0
  have BB : Below (w.heap.size + 2) wr w9 := (b0.mono (by omega)).grown gg (by omega) (fun k hk => by injection hk with hk; omega)
  have cr := fun i => BB.cell (p := ⟨w.heap.size + 1, i, none⟩) (show w.heap.size + 1 < w.heap.size + 2 by omega)
  have cf := fun i => BB.frozen (p := ⟨w.heap.size + 1, i, none⟩) (show w.heap.size + 1 < w.heap.size + 2 by omega)
  have hv9 : ∀ k, v9.ownBlock = some k → k = gf ∨ w0.heap.size ≤ k := fun k hk => by
    rcases hloc with e | ⟨j, e, hj⟩
    · rw [e] at hk; injection hk with hk; exact .inl hk.symm
    · rw [e] at hk; injection hk with hk; exact .inr (by omega)
  have hpn : ∀ k, (Value.slice pa pl.length pc).ownBlock = some k → wr.heap.size ≤ k ∧ k < w0.heap.size := fun k hk => World.ownsRow.lt ov k hk
  have hold : ∀ i, i < l.length → ∀ k, (gFx l i).2.1.ownBlock = some k → k ≠ gf ∧ k < wr.heap.size := fun i hi k hk =>
    ⟨fun e => h.far i hi k hk (by rw [e]; rfl), (World.ownsRow.lt (h.fr.pay i hi) k hk).2⟩
  obtain ⟨a', c', e', sb, hc1, hc2⟩ := h.buf
  injection e' with e1 _ e2
  subst e1 e2
  have t1 := h.t1
  have t2 := h.t2
  have t3 := h.t3
  rw [hgo] at t1 t2 t3
  have hbgf : b ≠ gf := fun e => h.sep b rfl (by rw [e]; rfl)
  obtain ⟨u0, r0⟩ := h.r0
  obtain ⟨u1, r1⟩ := h.r1
  obtain ⟨u2, r2⟩ := h.r2
  have hle := h.le
  refine ⟨h.bel.trans (BB.mono (by omega)), by have := gg.size; omega, ⟨u0, (cr 0).trans r0⟩, ⟨u1, (cr 1).trans r1⟩, ⟨u2, (cr 2).trans r2⟩, (cf 0).trans h.z0, (cf 1).trans h.z1, (cf 2).trans h.z2, by omega, ?_, ?_, ?_, t1, t2, ?_, ?_, ?_, ?_⟩
  · refine ⟨_, c - y, by rw [Nat.sub_sub], ?_, by omega, by omega⟩
    by_cases hz : N - (p + y) = 0
    · exact .inl hz
    · have hcy : ¬ c = y := by omega
      rw [if_neg hcy]
      rcases sb with s | ⟨b', off', e, hB, hb, hc⟩
      · omega
      · injection e with e; injection e with e1 e2 _
        subst e1 e2
        refine .inr ⟨b, off + y, rfl, hB, by have := gg.size; omega, fun i hi => ?_⟩
        have q := (b0.cell (p := ⟨b, off + (y + i), none⟩) hb).trans (hc (y + i) (by omega))
        have q2 := gg.cell q (fun e => by injection e with e; exact hbgf e)
        rw [Nat.add_assoc]
        rw [q2]
        simp [shF, Nat.add_assoc]
  · refine ⟨?_, fun i hi => ?_⟩
    · have e : fxCells (l ++ [(kd, .slice pa pl.length pc, pl)]) = fxCells l ++ [.int .i64 kd, .slice pa pl.length pc] := by simp [fxCells]
      rw [e, List.length_append]; exact hown
    · by_cases hil : i < l.length
      · rw [gFx_left hil]
        exact (fr0.pay i hil).gr gg (fun k hk e => by injection e with e; exact (hold i hil k hk).1 e)
      · have e : i = l.length := by simp at hi; omega
        subst e
        rw [gFx_last]
        exact (own_weak ov (by omega)).gr gg (fun k hk e => by injection e with e; have := hpn k hk; omega)
  · rcases hloc with e | ⟨k, e, _⟩ <;> rw [e] <;> simp
  · rw [List.map_append, List.append_assoc]; exact t3
  · rw [List.length_append]; have := h.ll; show l.length + 1 ≤ p + y; omega
  · intro i hi k hk e
    by_cases hil : i < l.length
    · rw [gFx_left hil] at hk
      have := hold i hil k hk
      rcases hv9 k e with e | e
      · exact this.1 e
      · omega
    · have e' : i = l.length := by simp at hi; omega
      subst e'
      rw [gFx_last] at hk
      have := hpn k hk
      rcases hv9 k e with e | e <;> omega
  · intro k hk e
    have hkb : k = b := by
      by_cases hcy : c = y
      · rw [if_pos hcy] at hk; simp [Value.ownBlock] at hk; exact hk.symm
      · rw [if_neg hcy] at hk; simp [Value.ownBlock] at hk; exact hk.symm
    subst hkb
    rcases sb with s | ⟨b', off', e', hB, hb, hc⟩
    · omega
    · injection e' with e'; injection e' with e1 e2 _
      subst e1 e2
      rcases hv9 _ e with e | e
      · exact hbgf e
      · omega

theorem run_app_none {P : Program} (w : World) (t ty e : TypeId) (i : TypeInfo) (ht : P.underlying t = some (.slice e)) (hi : P.info? e = some i) (base : Option Addr) (n cap c' : Nat) (h : n ≤ cap) :
    (Builtin.append_ #[t, t] ty #[.slice base n cap, .slice none 0 c']).run P w = .ok (.slice base n cap) w := by
  cases base <;> simp [Builtin.append_, run_underlying ht, sizeOf, typeInfo, hi, Builtin.lenOf, Builtin.firstCells, storeCells, loadCells, loadCellsFrom, h, Result.andThen]

theorem wpList_app_sg {w : World} {ops : Array Oper} {rest : List Oper} {o : Oper} {a : Act} {Q : Exit → Act → World → Prop} (hgd : o.guard = none) (s x : Operand)
    (ho : o.op = .call { callee := .builtin .append, args := #[s, x], argTypes := #[22, 22] }) (base : Nat) (v : Value) (n : Nat) (xs : List Value) (hs : a.eval s = v) (hown : w.ownsRow base 5 1 v n xs)
    (a1 : Option Addr) (n1 c1 : Nat) (f : Nat → Int) (hx : a.eval x = .slice a1 n1 c1) (hseg : Seg w a1 n1 f) (h63 : n + n1 ≤ maxLen) (hbytes : (n + n1) * 1 ≤ 140737488355328) (hbase : base ≤ w.heap.size)
    (h : ∀ v' w', w'.ownsRow base 5 1 v' (n + n1) (xs ++ cells8 f n1) → w.grownBy w' v.ownBlock → (v'.ownBlock = v.ownBlock ∨ v'.ownBlock = some w.heap.size) → wpList Tryd.prog ops Q rest (a.put o.dst v') w') : wpList Tryd.prog ops Q (o :: rest) a w := by
  obtain ⟨i0, hi, hz0, hz1, hz2⟩ := info_parts Tryd.infoByte
  rcases a1 with _ | ad
  · obtain rfl : n1 = 0 := by
      rcases hseg with h0 | ⟨_, _, e, _⟩
      · exact h0
      · cases e
    obtain ⟨b, cap, e, hle⟩ : ∃ b cap, v = .slice b n cap ∧ n ≤ cap := by
      rcases hown.2 with ⟨e, e0⟩ | ⟨g, cap, cur, e, _, _, hnc, _⟩
      · exact ⟨none, 0, by rw [e, e0], by omega⟩
      · exact ⟨_, cap, e, hnc⟩
    refine wpList_plain hgd fun _ hK => ?_
    unfold Oper.wp execOp
    rw [e] at hs
    simp only [ho, resolve, invoke, builtin, Sem.run_bind, Sem.run_pure, Result.andThen_ok, List.map_toArray, List.map_cons, List.map_nil, hs, hx, run_app_none w _ _ _ i0 Tryd.underlying22 hi b n cap c1 hle]
    refine hK _ _ (h _ _ ?_ ⟨rfl, rfl, rfl, Nat.le_refl _, fun _ _ _ => rfl⟩ (.inl (by rw [e])))
    have e0 : cells8 f 0 = [] := by simp [cells8]
    rw [e0, List.append_nil, ← e]; exact hown
  · by_cases h0 : n1 = 0
    · subst h0
      refine wpList_app_at hgd s x 22 ho base 5 i0 (.int .u8 0) 1 1 Tryd.underlying22 hi hz0 hz1 hz2 rfl (by decide) v n xs hs hown ad 0 c1 [] hx rfl (fun j u hj => by simp at hj) (fun u hu => by simp at hu) h63 hbytes hbase ?_
      have e0 : cells8 f 0 = [] := by simp [cells8]
      rw [e0] at h
      exact h
    · rcases hseg with h1 | ⟨b, off, e, hb, hc⟩
      · exact absurd h1 h0
      · injection e with e
        subst e
        have hnw : ∀ j u, (cells8 f n1)[j]? = some u → w.cell? ((⟨b, off, none⟩ : Addr).add j) = some u := by
          have := news_at (at' := 0) (l := n1) hc (by omega)
          simpa using this
        exact wpList_app_at hgd s x 22 ho base 5 i0 (.int .u8 0) 1 1 Tryd.underlying22 hi hz0 hz1 hz2 rfl (by decide) v n xs hs hown ⟨b, off, none⟩ n1 c1 (cells8 f n1) hx (by simp [cells8]) hnw (by intro u hu; obtain ⟨i, _, rfl⟩ := List.mem_map.1 hu; rfl) h63 hbytes hbase h

set_option maxRecDepth 100000 in
set_option maxHeartbeats 1000000 in
theorem specFeedG (a1 : Option Addr) (n1 c1 : Nat) (a2 : Option Addr) (n2 c2 : Nat) (f f2 : Nat → Int) (tk : Int) (w : World) (hn : n1 ≤ 1048576) (hn2 : n2 ≤ 1048576) (hf : Byt f) (hf2 : Byt f2) (h1 : Seg w a1 n1 f) (h2 : Seg w a2 n2 f2) (htk : tk = IntKind.i64.wrap tk) :
    Calls Tryd.prog 5 #[.agg #[.slice a1 n1 c1, .int .i64 tk, .int .i64 0], .slice a2 n2 c2] w fun e w' => Below w.heap.size w w' ∧
      ∃ a m c fv l, e = .returned (.tuple #[.agg #[.slice a m c, .int .i64 (IntKind.i64.wrap (tk + ((feedF (gz (payl f n1 ++ payl f2 n2)) (n1 + n2) 0).2.1 : Nat))), .int .i64 ((feedF (gz (payl f n1 ++ payl f2 n2)) (n1 + n2) 0).1 : Nat)], fv])
        ∧ m = restF (gz (payl f n1 ++ payl f2 n2)) (n1 + n2)
        ∧ SegB w' (w.heap.size + 2) a m (shF (gz (payl f n1 ++ payl f2 n2)) (feedF (gz (payl f n1 ++ payl f2 n2)) (n1 + n2) 0).2.1)
        ∧ FxW w' (w.heap.size + 2) fv l ∧ l.map prFx = (feedF (gz (payl f n1 ++ payl f2 n2)) (n1 + n2) 0).2.2 := by
  obtain ⟨i0, hi, hz0, hz1, hz2⟩ := info_parts Tryd.infoByte
  have HTK := hid htk
  clear htk
  have HI := hid (fdI w (.slice a1 n1 c1) (.int .i64 tk) (.int .i64 0))
  obtain ⟨W, hW⟩ : ∃ W, fdW w (.slice a1 n1 c1) (.int .i64 tk) (.int .i64 0) = W := ⟨_, rfl⟩
  rw [hW] at HI
  unfold fdW at hW
  have HS := hid (h1.below HI.out.bel)
  have HS2 := hid h2
  clear h1 h2
  have k0 := HI.out.c0
  have k1 := HI.out.c1
  have k2 := HI.out.c2
  have ho := HI.out.bf
  unfold Own at ho
  go_enter Tryd.func5, Tryd.ntmps5
  go_wp2_with (at_builtin; (try rw [hW]); refine wpList_app_sg rfl _ _ rfl (w.heap.size + 2) _ _ _ rfl ho a1 n1 c1 f rfl HS.out ?c3 ?c4 ?c5 ?_)
  case c3 => unfold maxLen; first | omega | (simp; omega)
  case c4 => first | omega | (simp; omega)
  case c5 => have := HI.out.size; omega
  intro v4 w4 hown4 hgr4 hloc4
  have o4 : Own w4 (w.heap.size + 2) v4 (payl f n1) := payl_own0 rfl hown4
  obtain ⟨g4, cp4, rfl, hg4, hg4'⟩ := own_payl o4 (some_of hloc4)
  have B4 : Below (w.heap.size + 3) W w4 := (Below.refl _ W).grown hgr4 (by have := HI.out.size; omega) (fun q hq => by simp [Value.ownBlock] at hq; omega)
  have HB4 := hid (HI.out.bel.trans (B4.mono (by omega)))
  have HF4 : Hid (FxW w4 (w.heap.size + 2) (.slice (some ⟨w.heap.size + 1 + 1, 0, none⟩) 0 0) []) := hid (HI.out.fr.kept hgr4 (fun k hk => ⟨fun e => by simp [Value.ownBlock] at hk e; omega, fun i hi => by simp at hi⟩))
  have cc := fun (i : Nat) (b : Nat) (hb : b < w.heap.size + 3) => B4.cell (p := ⟨b, i, none⟩) hb
  have cf := fun (i : Nat) (b : Nat) (hb : b < w.heap.size + 3) => B4.frozen (p := ⟨b, i, none⟩) hb
  have q0 := (cc 0 w.heap.size (by omega)).trans HI.out.c0
  have q1 := (cc 1 w.heap.size (by omega)).trans HI.out.c1
  have q2 := (cc 2 w.heap.size (by omega)).trans HI.out.c2
  have r0 := (cc 0 (w.heap.size + 1) (by omega)).trans HI.out.r0
  have r1 := (cc 1 (w.heap.size + 1) (by omega)).trans HI.out.r1
  have r2 := (cc 2 (w.heap.size + 1) (by omega)).trans HI.out.r2
  have z0 := (cf 0 (w.heap.size + 1) (by omega)).trans HI.out.z0
  have z1 := (cf 1 (w.heap.size + 1) (by omega)).trans HI.out.z1
  have z2 := (cf 2 (w.heap.size + 1) (by omega)).trans HI.out.z2
  have hgx : w.heap.size + 3 ≤ g4 := by
    rcases hloc4 with h | h
    · simp [Value.ownBlock] at h; omega
    · have h' : (Value.slice (some ⟨g4, 0, none⟩) n1 cp4).ownBlock = some W.heap.size := h
      simp [Value.ownBlock] at h'; have := HI.out.size; omega
  have HO4 := hid o4
  clear hown4 hgr4 hloc4 o4 B4 cc cf k0 k1 k2 ho hW
  have HS24 := hid (HS2.out.below HB4.out)
  have ho4 := HO4.out
  unfold Own at ho4
  rw [payl_len] at ho4
  have HY := hid hf
  have HY2 := hid hf2
  clear hf hf2
  go_wp2_with (at_builtin; refine wpList_app_sg rfl _ _ rfl (w.heap.size + 2) _ _ _ rfl ho4 a2 n2 c2 f2 rfl HS24.out ?e3 ?e4 ?e5 ?_)
  case e3 => unfold maxLen; first | omega | (simp; omega)
  case e4 => first | omega | (simp; omega)
  case e5 => have := World.ownsRow.lt HO4.out g4 rfl; omega
  intro v5 w5 hown5 hgr5 hloc5
  have o5 : Own w5 (w.heap.size + 2) v5 (payl f n1 ++ payl f2 n2) := payl_own2 (by rw [payl_len]; exact hown5)
  have hln : (payl f n1 ++ payl f2 n2).length = n1 + n2 := by simp [payl_len]
  have hby : Byt (gz (payl f n1 ++ payl f2 n2)) := gz_byte (fun z hz => by
    rcases List.mem_append.1 hz with hz | hz
    · obtain ⟨i, _, rfl⟩ := List.mem_map.1 hz; exact HY.out i
    · obtain ⟨i, _, rfl⟩ := List.mem_map.1 hz; exact HY2.out i)
  have hbn : v5.ownBlock ≠ none := some_of (k := g4) (j := w4.heap.size) (by simpa [Value.ownBlock] using hloc5)
  obtain ⟨g5, cp5, rfl, hg5, hcp, hcp', sb5⟩ := own_some o5 hbn
  rw [hln] at sb5 hcp
  have hg5x : w.heap.size + 3 ≤ g5 := by
    rcases hloc5 with h | h
    · simp [Value.ownBlock] at h; omega
    · have h' : (Value.slice (some ⟨g5, 0, none⟩) (payl f n1 ++ payl f2 n2).length cp5).ownBlock = some w4.heap.size := h
      simp [Value.ownBlock] at h'; have := World.ownsRow.lt HO4.out g4 rfl; omega
  have B5 : Below (w.heap.size + 3) w4 w5 := (Below.refl _ w4).grown hgr5 (by have := World.ownsRow.lt HO4.out g4 rfl; omega) (fun q hq => by simp [Value.ownBlock] at hq; omega)
  have HBB := hid (HB4.out.trans (B5.mono (by omega)))
  have HF5 : Hid (FxW w5 (w.heap.size + 2) (.slice (some ⟨w.heap.size + 1 + 1, 0, none⟩) 0 0) []) := hid (HF4.out.kept hgr5 (fun k hk => ⟨fun e => by simp [Value.ownBlock] at hk e; omega, fun i hi => by simp at hi⟩))
  have HL0 : Hid (LpI w w5 (gz (payl f n1 ++ payl f2 n2)) (n1 + n2) (feedF (gz (payl f n1 ++ payl f2 n2)) (n1 + n2) 0) 0 (.slice (some ⟨g5, 0, none⟩) (payl f n1 ++ payl f2 n2).length cp5) (.slice (some ⟨w.heap.size + 1 + 1, 0, none⟩) 0 0) []) := by
    have cr := fun i => B5.cell (p := ⟨w.heap.size + 1, i, none⟩) (show w.heap.size + 1 < w.heap.size + 3 by omega)
    have cf := fun i => B5.frozen (p := ⟨w.heap.size + 1, i, none⟩) (show w.heap.size + 1 < w.heap.size + 3 by omega)
    refine hid ⟨HBB.out, by have := World.ownsRow.lt HO4.out g4 rfl; have := B5.size; omega, ⟨_, (cr 0).trans r0⟩, ⟨_, (cr 1).trans r1⟩, ⟨_, (cr 2).trans r2⟩, (cf 0).trans z0, (cf 1).trans z1, (cf 2).trans z2, Nat.zero_le _, ⟨_, cp5, by rw [hln]; rfl, ?_, hcp, hcp'⟩, HF5.out, by simp [Value.ownBlock], rfl, rfl, rfl, Nat.le_refl _, fun i hi => by simp at hi, fun b hb e => by simp [Value.ownBlock] at hb e; omega⟩
    have e : shF (gz (payl f n1 ++ payl f2 n2)) 0 = gz (payl f n1 ++ payl f2 n2) := by funext i; simp [shF]
    rw [e]; exact sb5
  have k1' := (B5.cell (p := ⟨w.heap.size, 1, none⟩) (show w.heap.size < w.heap.size + 3 by omega)).trans q1
  have HBY := hid hby
  rw [hln] at HL0 ⊢
  have hNle : n1 + n2 ≤ 2097152 := by omega
  obtain ⟨F, hF⟩ : ∃ F, gz (payl f n1 ++ payl f2 n2) = F := ⟨_, rfl⟩
  have HFE := hid hF
  rw [hF] at HBY HL0
  clear hF
  obtain ⟨R, hR⟩ : ∃ R, feedF F (n1 + n2) 0 = R := ⟨_, rfl⟩
  have HRE := hid hR
  rw [hR] at HL0
  clear hR
  clear hown5 hgr5 hloc5 o5 B5 sb5 q0 q1 q2 r0 r1 r2 z0 z1 z2 ho4 HO4 HF4 HF5 HB4 HS24 hby hbn
  go_wp2_with fail
  go_loopw [6, 7, 8] (fun fv bv tv wr => ∃ (p : Nat) (l : List Fx), tv = .int .i64 (IntKind.i64.wrap (tk + (p : Int))) ∧ LpI w wr F (n1 + n2) R p bv fv l) (fun _ bv _ _ => lenOf bv)
  case atStart => exact ⟨0, [], by rw [show tk + ((0 : Nat) : Int) = tk by simp, ← HTK.out], HL0.out⟩
  case round =>
    obtain ⟨p, l, rfl, hI⟩ := hrel
    obtain ⟨a, c, rfl, sb, hc1, hc2⟩ := hI.buf
    have HF1 := hid (l5FirstC a (n1 + n2 - p) c (shF F p) wr (by omega) hc1 hc2 (shF_byt HBY.out p) sb.seg)
    have HST := hid (fun h => feedF_stop (f := F) (N := n1 + n2) (p := p) h)
    have HGO := hid (fun h => feedF_go (f := F) (N := n1 + n2) (p := p) h)
    have HLI := hid hI
    have HSB := hid sb
    have hpl := hI.le
    obtain ⟨gf, cpf, rfl, hgf⟩ := fxw_form hI.fr hI.frn
    obtain ⟨M, hM⟩ : ∃ M, n1 + n2 - p = M := ⟨_, rfl⟩
    rw [hM] at HF1 HST HGO HSB hc1 ⊢
    have HM := hid hM
    clear hM hI sb
    obtain ⟨T, hT⟩ : ∃ T, IntKind.i64.wrap (tk + (p : Int)) = T := ⟨_, rfl⟩
    have HT0 := hid hT
    rw [hT]
    clear hT
    obtain ⟨q, hq⟩ : ∃ q, firstF (shF F p) M = q := ⟨_, rfl⟩
    rw [hq] at HF1 HST HGO
    obtain ⟨x, y⟩ := q
    dsimp only at HF1 HST HGO
    by_cases hy : y = 0
    · subst hy
      have HC : Hid (Calls Tryd.prog 14 #[.slice a M c] wr fun e w' => e = .returned (.tuple #[.int .i64 (x : Int), .int .i64 0, .agg #[.int .i64 0, .slice none 0 0]]) ∧ Below wr.heap.size wr w') := hid (HF1.out.mono (by
        rintro e w' ⟨hb, ⟨_, rfl⟩ | ⟨_, h0, _⟩⟩
        · exact ⟨rfl, hb⟩
        · exact absurd rfl h0))
      have HT := hid (HST.out rfl)
      clear HF1 HST HGO
      by_cases hx : x = 0
      · subst hx
        go_wp2_with fail
        refine HC.out.mono ?_
        rintro e w0 ⟨rfl, b0⟩
        obtain ⟨w1, hw1⟩ : ∃ w1, w0.alloc (.cells #[.int .i64 0, .slice none 0 0] 41) = w1 := ⟨_, rfl⟩
        have b1 : Below wr.heap.size wr w1 := by rw [← hw1]; exact b0.alloc b0.size _
        clear b0
        have zz : w.heap.size + 1 < wr.heap.size := by have := HLI.out.sz; omega
        obtain ⟨u0, r0⟩ := HLI.out.r0
        obtain ⟨u1, r1⟩ := HLI.out.r1
        obtain ⟨u2, r2⟩ := HLI.out.r2
        have y0 := (b1.cell (p := ⟨w.heap.size + 1, 0, none⟩) zz).trans r0
        have y1 := (b1.cell (p := ⟨w.heap.size + 1, 1, none⟩) zz).trans r1
        have y2 := (b1.cell (p := ⟨w.heap.size + 1, 2, none⟩) zz).trans r2
        have s0 := (b1.frozen (p := ⟨w.heap.size + 1, 0, none⟩) zz).trans HLI.out.z0
        have s1 := (b1.frozen (p := ⟨w.heap.size + 1, 1, none⟩) zz).trans HLI.out.z1
        have s2 := (b1.frozen (p := ⟨w.heap.size + 1, 2, none⟩) zz).trans HLI.out.z2
        have HB1 := hid (keepS HLI.out.bel b1)
        have HF6 := hid (HLI.out.fr.below b1)
        have HS6 := hid (HSB.out.below b1)
        have HZ1 := hid (Nat.le_trans HLI.out.sz b1.size)
        clear r0 r1 r2 b1 HC
        rw [← hw1] at y0 y1 y2 s0 s1 s2
        have HW1 := hid hw1
        clear hw1
        go_wp2_with fail
        have e3 := box3E (.slice a M c) (.int .i64 T) (.int .i64 0) y0 y1 y2
        have G3 := grown3 (w0.alloc (.cells #[.int .i64 0, .slice none 0 0] 41)) (w.heap.size + 1) (.slice a M c) (.int .i64 T) (.int .i64 0)
        rw [HW1.out] at e3 G3 ⊢
        obtain ⟨W5, hW5⟩ : ∃ W5, ((w1.setCell ⟨w.heap.size + 1, 0, none⟩ (.slice a M c)).setCell ⟨w.heap.size + 1, 1, none⟩ (.int .i64 T)).setCell ⟨w.heap.size + 1, 2, none⟩ (.int .i64 0) = W5 := ⟨_, rfl⟩
        rw [hW5] at e3 G3 ⊢
        obtain ⟨m0, m1, m2⟩ := e3
        have hk1 : ∀ k, some (w.heap.size + 1) = some k → k < w.heap.size + 2 := fun k hk => by injection hk with hk; omega
        have F5 := HF6.out.kept G3 (fun k hk => ⟨fun e => by have := HF6.out.blk.1 k e; have := hk1 k hk; omega, fun i hi e => by have := HF6.out.blk.2 i hi k e; have := hk1 k hk; omega⟩)
        have S5 := HS6.out.gr G3 hk1
        have B5 := HB1.out.grown G3 HB1.out.size (fun k hk => by injection hk with hk; omega)
        refine bodyPost_ret (v := .tuple #[.agg #[.slice a M c, .int .i64 T, .int .i64 0], .slice (some ⟨gf, 0, none⟩) l.length cpf]) (by simp [results, Tryd.results5, go_sem, m0, m1, m2]) rfl ?_
        have t1 := HLI.out.t1
        have t2 := HLI.out.t2
        have t3 := HLI.out.t3
        rw [HT.out] at t1 t2 t3
        have t1' : (0 : Nat) = R.1 := t1
        have t2' : p = R.2.1 := t2
        have t3' : l.map prFx = R.2.2 := by simpa using t3
        have hr : M = restF F (n1 + n2) := by unfold restF; rw [HRE.out, if_pos t1'.symm, ← t2', HM.out]
        rw [HFE.out, HRE.out, ← t2', ← t1', HT0.out]
        exact ⟨B5, a, M, c, _, l, rfl, hr, S5, F5, t3'⟩
      · have hx1 : ((x : Int) != 0) = true := by simp; omega
        go_wp2_with fail
        refine HC.out.mono ?_
        rintro e w0 ⟨rfl, b0⟩
        obtain ⟨w1, hw1⟩ : ∃ w1, (w0.alloc (.cells #[.int .i64 0, .slice none 0 0] 41)).alloc (.cells #[] 5) = w1 := ⟨_, rfl⟩
        have b1 : Below wr.heap.size wr w1 := by rw [← hw1]; exact (b0.alloc b0.size _).alloc (by have := b0.size; simp; omega) _
        clear b0
        have zz : w.heap.size + 1 < wr.heap.size := by have := HLI.out.sz; omega
        obtain ⟨u0, r0⟩ := HLI.out.r0
        obtain ⟨u1, r1⟩ := HLI.out.r1
        obtain ⟨u2, r2⟩ := HLI.out.r2
        have y0 := (b1.cell (p := ⟨w.heap.size + 1, 0, none⟩) zz).trans r0
        have y1 := (b1.cell (p := ⟨w.heap.size + 1, 1, none⟩) zz).trans r1
        have y2 := (b1.cell (p := ⟨w.heap.size + 1, 2, none⟩) zz).trans r2
        have s0 := (b1.frozen (p := ⟨w.heap.size + 1, 0, none⟩) zz).trans HLI.out.z0
        have s1 := (b1.frozen (p := ⟨w.heap.size + 1, 1, none⟩) zz).trans HLI.out.z1
        have s2 := (b1.frozen (p := ⟨w.heap.size + 1, 2, none⟩) zz).trans HLI.out.z2
        have HB1 := hid (keepS HLI.out.bel b1)
        have HF6 := hid (HLI.out.fr.below b1)
        have HS6 := hid (HSB.out.below b1)
        have HZ1 := hid (Nat.le_trans HLI.out.sz b1.size)
        clear r0 r1 r2 b1 HC
        rw [← hw1] at y0 y1 y2 s0 s1 s2
        have HW1 := hid hw1
        clear hw1
        go_wp2_with fail
        have e3 := box3E (.slice (some ⟨w0.heap.size + 1, 0, none⟩) 0 0) (.int .i64 T) (.int .i64 (x : Int)) y0 y1 y2
        have G3 := grown3 ((w0.alloc (.cells #[.int .i64 0, .slice none 0 0] 41)).alloc (.cells #[] 5)) (w.heap.size + 1) (.slice (some ⟨w0.heap.size + 1, 0, none⟩) 0 0) (.int .i64 T) (.int .i64 (x : Int))
        rw [HW1.out] at e3 G3 ⊢
        obtain ⟨W5, hW5⟩ : ∃ W5, ((w1.setCell ⟨w.heap.size + 1, 0, none⟩ (.slice (some ⟨w0.heap.size + 1, 0, none⟩) 0 0)).setCell ⟨w.heap.size + 1, 1, none⟩ (.int .i64 T)).setCell ⟨w.heap.size + 1, 2, none⟩ (.int .i64 (x : Int)) = W5 := ⟨_, rfl⟩
        rw [hW5] at e3 G3 ⊢
        obtain ⟨m0, m1, m2⟩ := e3
        have hk1 : ∀ k, some (w.heap.size + 1) = some k → k < w.heap.size + 2 := fun k hk => by injection hk with hk; omega
        have F5 := HF6.out.kept G3 (fun k hk => ⟨fun e => by have := HF6.out.blk.1 k e; have := hk1 k hk; omega, fun i hi e => by have := HF6.out.blk.2 i hi k e; have := hk1 k hk; omega⟩)
        have B5 := HB1.out.grown G3 HB1.out.size (fun k hk => by injection hk with hk; omega)
        refine bodyPost_ret (v := .tuple #[.agg #[.slice (some ⟨w0.heap.size + 1, 0, none⟩) 0 0, .int .i64 T, .int .i64 (x : Int)], .slice (some ⟨gf, 0, none⟩) l.length cpf]) (by simp [results, Tryd.results5, go_sem, m0, m1, m2]) rfl ?_
        have t1 := HLI.out.t1
        have t2 := HLI.out.t2
        have t3 := HLI.out.t3
        rw [HT.out] at t1 t2 t3
        have t1' : x = R.1 := t1
        have t2' : p = R.2.1 := t2
        have t3' : l.map prFx = R.2.2 := by simpa using t3
        have hr : 0 = restF F (n1 + n2) := by unfold restF; rw [HRE.out, if_neg (by rw [← t1']; exact hx)]
        rw [HFE.out, HRE.out, ← t2', ← t1', HT0.out]
        exact ⟨B5, _, 0, 0, _, l, rfl, hr, .inl rfl, F5, t3'⟩
    · obtain ⟨ga, gb, gc, gd⟩ := firstF_go (g := shF F p) (m := M) (by rw [hq]; exact hy)
      rw [hq] at ga gd
      have ga' : x = 0 := ga
      subst ga'
      have hyM : y ≤ M := by have := firstF_le (shF F p) M; rw [hq] at this; exact this
      have HC : Hid (Calls Tryd.prog 14 #[.slice a M c] wr fun e w' => ∃ v, e = .returned (.tuple #[.int .i64 0, .int .i64 (y : Int), .agg #[.int .i64 (shF F p 2), v]]) ∧ Own w' wr.heap.size v (payl (fun i => shF F p ((headF (shF F p) M).2.1 + i)) (headF (shF F p) M).2.2) ∧ Below wr.heap.size wr w') := hid (HF1.out.mono (by
        rintro e w' ⟨hb, ⟨h0, _⟩ | ⟨_, _, v, rfl, ho⟩⟩
        · exact absurd h0 hy
        · exact ⟨v, rfl, ho, hb⟩))
      have HG := hid (HGO.out hy)
      have HFR : Hid (frameF F (n1 + n2) p = (shF F p 2, payl (fun i => shF F p ((headF (shF F p) M).2.1 + i)) (headF (shF F p) M).2.2)) := by
        unfold frameF
        rw [HM.out]
        have e : shF F (p + (headF (shF F p) M).2.1) = fun i => shF F p ((headF (shF F p) M).2.1 + i) := by funext i; simp [shF, Nat.add_assoc]
        rw [e]; exact hid rfl
      obtain ⟨pl, hpl2⟩ : ∃ pl, payl (fun i => shF F p ((headF (shF F p) M).2.1 + i)) (headF (shF F p) M).2.2 = pl := ⟨_, rfl⟩
      obtain ⟨kd, hkd⟩ : ∃ kd, shF F p 2 = kd := ⟨_, rfl⟩
      rw [hpl2, hkd] at HC HFR
      clear HF1 HST HGO ga gb gc gd hpl2 hkd hq
      obtain ⟨j0, hj, jz0, jz1, jz2⟩ := info_parts Tryd.infoFrame
      have dy : ((y : Int) == 0) = false := by simp; omega
      rcases HSB.out with h0 | ⟨b, off, rfl, hbB, hbz, hbc⟩
      · omega
      have HBC := hid hbc
      clear hbc
      have gz0 : gf < wr.heap.size := (World.ownsRow.lt HLI.out.fr.row gf rfl).2
      go_wp2_with fail
      refine HC.out.mono ?_
      rintro e w0 ⟨v, rfl, ov, b0⟩
      obtain ⟨pa, pc, rfl, _⟩ := ov.any
      have HOV := hid ov
      have HB0 := hid b0
      have z0 := b0.size
      have HRW := hid (HLI.out.fr.below b0)
      clear ov b0 HC
      obtain ⟨wa, hwa⟩ : ∃ wa, w0.alloc (.cells #[.int .i64 kd, .slice pa pl.length pc] 41) = wa := ⟨_, rfl⟩
      have HZA : Hid (wa.heap.size = w0.heap.size + 1) := by rw [← hwa]; exact hid (by simp)
      have HRA : Hid ((wa.alloc (.cells #[.int .i64 kd, .slice pa pl.length pc] 41)).ownsRow (w.heap.size + 2) 41 2 (.slice (some ⟨gf, 0, none⟩) l.length cpf) l.length (fxCells l)) := by rw [← hwa]; exact hid (World.ownsRow.alloc (World.ownsRow.alloc HRW.out.row _) _)
      have HNW := hid (cell2A wa (.int .i64 kd) (.slice pa pl.length pc) 41)
      have HWA := hid hwa
      rw [hwa] at HWA
      have HE := hid hwa
      clear hwa
      go_wp2_with (at_builtin; rw [HE.out]; refine wpList_app_at rfl _ _ 26 rfl (w.heap.size + 2) 41 j0 _ 2 32 Tryd.underlying26 hj jz0 jz1 jz2 rfl (by decide) _ _ _ rfl HRA.out ⟨wa.heap.size, 0, none⟩ 1 1 [.int .i64 kd, .slice pa pl.length pc] ?g0 rfl ?g1 ?g2 ?g3 ?g4 ?g5 ?_)
      case g0 => rw [HZA.out]; rfl
      case g1 => exact HNW.out
      case g2 => intro u hu; simp at hu; rcases hu with rfl | rfl <;> rfl
      case g3 => have := HLI.out.ll; unfold maxLen; omega
      case g4 => have := HLI.out.ll; omega
      case g5 => have := HLI.out.sz; have := HZA.out; simp; omega
      intro v9 w9 hown9 hgr9 hloc9
      have ga0 : w0.grownBy wa (some gf) := by rw [← HE.out]; exact World.grownBy_alloc w0 _ _
      have gg : w0.grownBy w9 (some gf) := (ga0.trans (World.grownBy_alloc wa _ _)).trans hgr9
      have HN := hid (HLI.out.step (v9 := v9) (y := y) (kd := kd) HB0.out HOV.out gg hown9 (hloc9.imp id (fun e => ⟨_, e, by have := HZA.out; omega⟩)) (by rw [HG.out, HFR.out]) hy (by rw [HM.out]; exact hyM))
      rw [HM.out] at HN
      have HWR := hid (wrapAdd tk p y)
      rw [HT0.out] at HWR
      clear hown9 hgr9 hloc9 ga0 gg HRA HNW HE HWA HRW HOV HB0 HG HFR HBC
      have w0y : (0 : Int) ≤ (y : Int) := Int.natCast_nonneg _
      have w1y : (y : Int) ≤ (M : Int) := by omega
      have w2y : (M : Int) ≤ (c : Int) := by omega
      go_wp2_with fail
      go_roundw
      case rel => exact ⟨p + y, _, by rw [← HWR.out]; first | exact congrArg (Value.int .i64) (Go.IntWalk.i64_left _).symm | exact congrArg (Value.int .i64) (IntWalk.i64_left _).symm | (rw [IntKind.wrap_i64]; unfold wrap64; rfl), HN.out⟩
      case measure => simp [lenOf]; omega
theorem specFeedC (g1 n1 c1 g2 n2 c2 : Nat) (f f2 : Nat → Int) (tk : Int) (w : World) (hn : n1 ≤ 1048576) (hn2 : n2 ≤ 1048576) (hf : Byt f) (hf2 : Byt f2) (h1 : Seg w (some ⟨g1, 0, none⟩) n1 f) (h2 : Seg w (some ⟨g2, 0, none⟩) n2 f2) (htk : tk = IntKind.i64.wrap tk) :
    Calls Tryd.prog 5 #[.agg #[.slice (some ⟨g1, 0, none⟩) n1 c1, .int .i64 tk, .int .i64 0], .slice (some ⟨g2, 0, none⟩) n2 c2] w fun e w' => Below w.heap.size w w' ∧
      ∃ a m c fv l, e = .returned (.tuple #[.agg #[.slice a m c, .int .i64 (IntKind.i64.wrap (tk + ((feedF (gz (payl f n1 ++ payl f2 n2)) (n1 + n2) 0).2.1 : Nat))), .int .i64 ((feedF (gz (payl f n1 ++ payl f2 n2)) (n1 + n2) 0).1 : Nat)], fv])
        ∧ m = restF (gz (payl f n1 ++ payl f2 n2)) (n1 + n2)
        ∧ SegB w' (w.heap.size + 2) a m (shF (gz (payl f n1 ++ payl f2 n2)) (feedF (gz (payl f n1 ++ payl f2 n2)) (n1 + n2) 0).2.1)
        ∧ FxW w' (w.heap.size + 2) fv l ∧ l.map prFx = (feedF (gz (payl f n1 ++ payl f2 n2)) (n1 + n2) 0).2.2 :=
  specFeedG (some ⟨g1, 0, none⟩) n1 c1 (some ⟨g2, 0, none⟩) n2 c2 f f2 tk w hn hn2 hf hf2 h1 h2 htk
end Go.Proofs.YthkppnmnjboiaaaDoor
