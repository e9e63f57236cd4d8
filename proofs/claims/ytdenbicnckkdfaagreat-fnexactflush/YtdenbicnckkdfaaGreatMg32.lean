import Derived.Test.YtdenbicnckkdfaaGreatMg31
import Derived.Test.YtdenbicnckkdfaaGreatMg25
import Derived.Test.YtdenbicnckkdfaaGreatMg22
namespace Go.Proofs.YtdenbicnckkdfaaGreat
open Go.ChangeShapes Go.WideShapes Go.ChangeAt Go.RowKit
set_option linter.unusedVariables false
set_option linter.unusedSimpArgs false

theorem wp_app2 {P : Program} {o : Oper} {a : Act} {w w' : World} {K : Act → World → Prop} {Q : Exit → Act → World → Prop} (s x : Operand) (t u : TypeId) (ho : o.op = .call { callee := .builtin .append, args := #[s, x], argTypes := #[t, u] }) {v x' v' : Value} {t' : TypeId} (hr : (Builtin.append_ #[t, u] t' #[v, x']).run P w = .ok v' w') (hs : a.eval s = v) (hx : a.eval x = x') (ht : o.type = t') (h : K (a.put o.dst v') w') : Oper.wp P o a w K Q := by
  subst ht
  unfold Oper.wp execOp
  simp only [ho, resolve, invoke, builtin, Sem.run_bind, Sem.run_pure, Result.andThen_ok, List.map_toArray, List.map_cons, List.map_nil, hs, hx, hr]
  exact h
theorem wpList_app2 {P : Program} {ops : Array Oper} {rest : List Oper} {o : Oper} {a : Act} {w w' : World} {Q : Exit → Act → World → Prop} (hgd : o.guard = none) (s x : Operand) (t u : TypeId) (ho : o.op = .call { callee := .builtin .append, args := #[s, x], argTypes := #[t, u] }) {v x' v' : Value} {t' : TypeId} (hr : (Builtin.append_ #[t, u] t' #[v, x']).run P w = .ok v' w') (hs : a.eval s = v) (hx : a.eval x = x') (ht : o.type = t') (h : wpList P ops Q rest (a.put o.dst v') w') : wpList P ops Q (o :: rest) a w := by
  refine wpList_plain hgd fun K hK => ?_
  exact wp_app2 s x t u ho hr hs hx ht (hK _ _ h)

theorem strApp (B : Nat) (v : Value) (zs : List Int) (s : ByteArray) (w : World) (ho : Own w B v zs) (hB : B ≤ w.heap.size) (hl : zs.length ≤ 10000000000) (hs : s.size ≤ 1048576) :
    ∃ v' w', (Builtin.append_ #[39, 9] 39 #[v, .string s]).run Tryz.prog w = .ok v' w' ∧ Own w' B v' (zs ++ strInts s) ∧ Gr w w' v v' := by
  obtain ⟨i0, hi, hz0, hz1, hz2⟩ := info_parts Tryz.infoByte
  have ho' : w.ownsRow B 5 1 v zs.length (zs.map (Value.int .u8)) := ho
  obtain ⟨v', w', hr, h2, h3, h4⟩ := Lib.run_append_own_string (P := Tryz.prog) w B 39 9 39 5 i0 Tryz.underlying39 Tryz.underlying9 hi hz0 hz1 hz2 v zs.length _ ho' s (by unfold maxLen; omega) (by omega) hB
  refine ⟨v', w', hr, ?_, h3, ?_⟩
  · unfold Own
    simp only [List.length_append, List.map_append, strInts_length, strInts_cells]
    exact h2
  · rcases ho'.2 with ⟨rfl, h0⟩ | ⟨g, cap, cur, rfl, hbg, hg, hnc, hcm, hcs, htake⟩
    · have ho2 : w.ownsRow w.heap.size 5 1 (.slice none 0 0) zs.length (zs.map (Value.int .u8)) := ⟨ho'.1, .inl ⟨rfl, h0⟩⟩
      obtain ⟨v2, w2, hr2, h5, _, _⟩ := Lib.run_append_own_string (P := Tryz.prog) w w.heap.size 39 9 39 5 i0 Tryz.underlying39 Tryz.underlying9 hi hz0 hz1 hz2 _ zs.length _ ho2 s (by unfold maxLen; omega) (by omega) (Nat.le_refl _)
      rw [hr] at hr2
      injection hr2 with e1 e2
      subst e1; subst e2
      rcases h5.2 with ⟨rfl, _⟩ | ⟨g, cap, cur, rfl, hbg, _⟩
      · exact .inl rfl
      · exact .inr ⟨g, rfl, hbg⟩
    · by_cases hroom : zs.length + s.size ≤ cap
      · have hr2 := Lib.run_append_room_string (P := Tryz.prog) w 39 9 39 5 i0 Tryz.underlying39 Tryz.underlying9 hi hz1 g zs.length cap cur hg s hroom (by rw [hcs]; omega)
        rw [hr] at hr2
        injection hr2 with e1 e2
        subst e1
        exact .inl rfl
      · have hr2 := Lib.run_append_grow_string (P := Tryz.prog) w 39 9 39 5 i0 (.int .u8 0) Tryz.underlying39 Tryz.underlying9 hi hz0 ⟨g, 0, none⟩ zs.length cap _ (by rw [hz1]; simp) (ho'.cells (g := g) rfl) s (by omega) (by omega) (by rw [hz2]; exact growslice_fits (by omega) (by omega))
        rw [hr] at hr2
        injection hr2 with e1 e2
        subst e1
        exact .inr ⟨_, rfl, Nat.le_refl _⟩

theorem bytesApp (B : Nat) (v : Value) (zs ns : List Int) (a : Addr) (m c : Nat) (w : World) (ho : Own w B v zs) (hm : ns.length = m) (hn : ∀ i u, (ns.map (Value.int .u8))[i]? = some u → w.cell? (a.add i) = some u) (hB : B ≤ w.heap.size) (hl : zs.length + m ≤ 10000000000) :
    ∃ v' w', (Builtin.append_ #[39, 39] 39 #[v, .slice (some a) m c]).run Tryz.prog w = .ok v' w' ∧ Own w' B v' (zs ++ ns) ∧ Gr w w' v v' := by
  obtain ⟨i0, hi, hz0, hz1, hz2⟩ := info_parts Tryz.infoByte
  have ho' : w.ownsRow B 5 1 v zs.length (zs.map (Value.int .u8)) := ho
  obtain ⟨v', w', hr, h2, h3, h4, h5⟩ := run_append_own_at (P := Tryz.prog) w B 39 39 5 i0 (.int .u8 0) 1 1 Tryz.underlying39 hi hz0 hz1 hz2 rfl (by decide) v zs.length _ ho' a m c (ns.map (Value.int .u8)) (by simp [hm]) hn (fun u hu => by obtain ⟨z, _, rfl⟩ := List.mem_map.1 hu; rfl) (by unfold maxLen; omega) (by omega) hB
  refine ⟨v', w', hr, ?_, Gr.app h3 h5⟩
  unfold Own
  rw [List.length_append, List.map_append, hm]
  exact h2

structure LvB (l : List Lf) : Prop where
  rep : ∀ i, i < l.length → 0 ≤ (gL l i).r ∧ (gL l i).r < 8
  seq : ∀ i, i < l.length → 0 ≤ (gL l i).q ∧ (gL l i).q ≤ 1000000000
  val : ∀ i, i < l.length → (gL l i).v.size ≤ 200
  len : l.length ≤ 1000
  dis : Dis l l.length
end Go.Proofs.YtdenbicnckkdfaaGreat

namespace Go.Proofs.YtdenbicnckkdfaaGreat
open Go.ChangeShapes Go.WideShapes Go.ChangeAt Go.RowKit
set_option linter.unusedVariables false
set_option linter.unusedSimpArgs false

def LAt (w : World) (b off : Nat) (l : List Lf) (i m : Nat) : Prop := b < w.heap.size ∧ ∀ t, t < m → ∃ qa qc, w.cell? ⟨b, off + t * 5, none⟩ = some (.slice qa (gL l (i + t)).p.length qc) ∧ SSeg w qa (gL l (i + t)).p ∧ w.cell? ⟨b, off + t * 5 + 1, none⟩ = some (.bool (gL l (i + t)).fl) ∧ w.cell? ⟨b, off + t * 5 + 2, none⟩ = some (.int .i64 (gL l (i + t)).r) ∧ w.cell? ⟨b, off + t * 5 + 3, none⟩ = some (.int .i64 (gL l (i + t)).q) ∧ w.cell? ⟨b, off + t * 5 + 4, none⟩ = some (.string (gL l (i + t)).v)
theorem LAt.below {w w' : World} {b off i m : Nat} {l : List Lf} (h : LAt w b off l i m) (hb : Below w.heap.size w w') : LAt w' b off l i m :=
  ⟨Nat.lt_of_lt_of_le h.1 hb.size, fun t ht => by
    obtain ⟨qa, qc, h0, h1, h2, h3, h4, h5⟩ := h.2 t ht
    exact ⟨qa, qc, (hb.cell (p := ⟨b, _, none⟩) h.1).trans h0, h1.below hb, (hb.cell (p := ⟨b, _, none⟩) h.1).trans h2, (hb.cell (p := ⟨b, _, none⟩) h.1).trans h3, (hb.cell (p := ⟨b, _, none⟩) h.1).trans h4, (hb.cell (p := ⟨b, _, none⟩) h.1).trans h5⟩⟩
theorem LAt.take {w : World} {b off i m k : Nat} {l : List Lf} (h : LAt w b off l i m) (hk : k ≤ m) : LAt w b off l i k := ⟨h.1, fun t ht => h.2 t (by omega)⟩
theorem LAt.drop {w : World} {b off i m k : Nat} {l : List Lf} (h : LAt w b off l i m) (hk : k ≤ m) : LAt w b (off + k * 5) l (i + k) (m - k) := ⟨h.1, fun t ht => by
  have := h.2 (k + t) (by omega)
  rw [show off + (k + t) * 5 = off + k * 5 + t * 5 by omega, show i + (k + t) = i + k + t by omega] at this
  exact this⟩
def kAt (d n : Nat) (fl : Bool) : Int := if d + 1 < n then 3 else kd fl
set_option maxHeartbeats 1000000 in
theorem l4KindC (pa : Option Addr) (n pc : Nat) (fl : Bool) (r q : Int) (v : ByteArray) (d : Nat) (w : World) (hn : n ≤ 1048576) (hd : d ≤ 1000) :
    Calls Tryz.prog 96 #[.agg #[.slice pa n pc, .bool fl, .int .i64 r, .int .i64 q, .string v], .int .i64 (d : Int)] w fun e w' => e = .returned (.int .i64 (kAt d n fl)) ∧ Below w.heap.size w w' := by
  have HB := hid ((Below.refl w.heap.size w).alloc (Nat.le_refl _) (.cells #[.slice pa n pc, .bool fl, .int .i64 r, .int .i64 q, .string v] 69))
  by_cases h : d + 1 < n
  · have h1 : (d : Int) + 1 < (n : Int) := by omega
    have HK : Hid (kAt d n fl = 3) := hid (if_pos h)
    go_enter Tryz.func96, Tryz.ntmps96
    go_wp2_with fail
    go_ret
    exact ⟨by rw [HK.out]; rfl, HB.out⟩
  · have h1 : ¬ (d : Int) + 1 < (n : Int) := by omega
    cases fl with
    | true =>
      have HK : Hid (kAt d n true = 2) := hid (if_neg h)
      go_enter Tryz.func96, Tryz.ntmps96
      go_wp2_with fail
      go_ret
      exact ⟨by rw [HK.out]; rfl, HB.out⟩
    | false =>
      have HK : Hid (kAt d n false = 1) := hid (if_neg h)
      go_enter Tryz.func96, Tryz.ntmps96
      go_wp2_with fail
      go_ret
      exact ⟨by rw [HK.out]; rfl, HB.out⟩
set_option maxRecDepth 100000 in
set_option maxHeartbeats 2000000 in
theorem l4GroupC (l : List Lf) (b off i m c d : Nat) (w : World) (hm : 1 ≤ m) (hm2 : m ≤ 1048576) (hd : d ≤ 1000) (hp : ∀ t, t < m → d < (gL l (i + t)).p.length ∧ (gL l (i + t)).p.length ≤ 1048576) (h : LAt w b off l i m) :
    Calls Tryz.prog 95 #[.slice (some ⟨b, off, none⟩) m c, .int .i64 (d : Int)] w fun e w' => (∃ g : Nat, e = .returned (.int .i64 (g : Int)) ∧ 1 ≤ g ∧ g ≤ m ∧ (∀ t, t < g → onWay (gL l (i + t)).p (kd (gL l (i + t)).fl) d = onWay (gL l i).p (kd (gL l i).fl) d) ∧ (g < m → onWay (gL l (i + g)).p (kd (gL l (i + g)).fl) d ≠ onWay (gL l i).p (kd (gL l i).fl) d)) ∧ Below w.heap.size w w' := by
  have HL := hid h
  have HP := hid hp
  clear h hp
  go_enter Tryz.func95, Tryz.ntmps95
  go_wp2_with fail
  go_loopw [5] (fun i' wr => ∃ k : Nat, k ≤ m ∧ i' = .int .i64 k ∧ Hid (∀ t, t < k → onWay (gL l (i + t)).p (kd (gL l (i + t)).fl) d = onWay (gL l i).p (kd (gL l i).fl) d) ∧ Hid (Below w.heap.size w wr)) (fun i' _ => m - (intOf i').toNat)
  case atStart => exact ⟨0, Nat.zero_le _, rfl, hid (fun t ht => by omega), hid (Below.refl _ _)⟩
  case round =>
    obtain ⟨k, hk, rfl, HE, HB⟩ := hrel
    by_cases hlt : k < m
    · have HLr := HL.out.below HB.out
      obtain ⟨qa, kc, h0, hs, h1, h2, h3, h4⟩ := HLr.2 k hlt
      obtain ⟨qz, zc, g0, gs, g1, g2, g3, g4⟩ := HLr.2 0 (by omega)
      have hpk := HP.out k hlt
      have hpz := HP.out 0 (by omega)
      simp only [Nat.add_zero, Nat.zero_mul] at g0 gs g1 g2 g3 g4 hpz
      rcases hs with hs | ⟨kb, ko, rfl, hkb, hkc⟩
      · omega
      rcases gs with gs | ⟨zb, zo, rfl, hzb, hzc⟩
      · omega
      have h5 := hkc d hpk.1
      have g5 := hzc d hpz.1
      have HSAME : Hid (k = 0 → gL l (i + k) = gL l i) := hid (fun e => by rw [e, Nat.add_zero])
      have HNXT : Hid (onWay (gL l (i + k)).p (kd (gL l (i + k)).fl) d = onWay (gL l i).p (kd (gL l i).fl) d ↔ gS (gL l (i + k)).p d = gS (gL l i).p d ∧ kAt d (gL l (i + k)).p.length (gL l (i + k)).fl = kAt d (gL l i).p.length (gL l i).fl) := hid (by unfold onWay kAt; exact Prod.mk.injEq _ _ _ _ ▸ Iff.rfl)
      have HEND : Hid (onWay (gL l (i + k)).p (kd (gL l (i + k)).fl) d ≠ onWay (gL l i).p (kd (gL l i).fl) d → 1 ≤ k) := hid (fun hne => by
        rcases Nat.eq_zero_or_pos k with e | e
        · exact absurd (by rw [HSAME.out e]) hne
        · exact e)
      have HNE : Hid (∀ v, onWay (gL l (i + k)).p (kd (gL l (i + k)).fl) d ≠ onWay (gL l i).p (kd (gL l i).fl) d → v = k → (1 ≤ v ∧ v ≤ m ∧ (∀ t, t < v → onWay (gL l (i + t)).p (kd (gL l (i + t)).fl) d = onWay (gL l i).p (kd (gL l i).fl) d) ∧ (v < m → onWay (gL l (i + v)).p (kd (gL l (i + v)).fl) d ≠ onWay (gL l i).p (kd (gL l i).fl) d))) := hid (fun v h e => by subst e; exact ⟨HEND.out h, hk, HE.out, fun _ => h⟩)
      have HGO : Hid (onWay (gL l (i + k)).p (kd (gL l (i + k)).fl) d = onWay (gL l i).p (kd (gL l i).fl) d → ∀ t, t < k + 1 → onWay (gL l (i + t)).p (kd (gL l (i + t)).fl) d = onWay (gL l i).p (kd (gL l i).fl) d) := hid (fun h t ht => by
        by_cases e : t = k
        · subst e; exact h
        · exact HE.out t (by omega))
      obtain ⟨X, hX⟩ : ∃ X, (onWay (gL l (i + k)).p (kd (gL l (i + k)).fl) d = onWay (gL l i).p (kd (gL l i).fl) d) = X := ⟨_, rfl⟩
      have HX := hid hX
      rw [hX] at HNXT
      clear hkc hzc
      obtain ⟨yk, hyk⟩ : ∃ y, gL l (i + k) = y := ⟨_, rfl⟩
      obtain ⟨yz, hyz⟩ : ∃ y, gL l i = y := ⟨_, rfl⟩
      rw [hyk] at h0 h1 h2 h3 h4 h5 hpk HNXT
      rw [hyz] at g0 g1 g2 g3 g4 g5 hpz HNXT
      clear hyk hyz
      obtain ⟨kp, kf, kr, kq, kv⟩ := yk
      obtain ⟨zp, zf, zr, zq, zv⟩ := yz
      dsimp only at h0 h1 h2 h3 h4 h5 hpk g0 g1 g2 g3 g4 g5 hpz HNXT
      clear hX
      obtain ⟨s, hs'⟩ : ∃ s, gS kp d = s := ⟨_, rfl⟩
      obtain ⟨z, hz'⟩ : ∃ z, gS zp d = z := ⟨_, rfl⟩
      obtain ⟨kn, hkn⟩ : ∃ kn, kp.length = kn := ⟨_, rfl⟩
      obtain ⟨zn, hzn⟩ : ∃ zn, zp.length = zn := ⟨_, rfl⟩
      rw [hs', hz', hkn, hzn] at HNXT
      rw [hs'] at h5
      rw [hz'] at g5
      rw [hkn] at h0 hpk
      rw [hzn] at g0 hpz
      have i1 : (0 : Int) ≤ (k : Int) := Int.natCast_nonneg _
      have i2 : (k : Int) < (m : Int) := by omega
      have i3 : (0 : Int) ≤ (d : Int) := Int.natCast_nonneg _
      have i4 : (d : Int) < (kn : Int) := by omega
      have i5 : (d : Int) < (zn : Int) := by omega
      have i6 : (0 : Int) < (m : Int) := by omega
      have i7 : 0 < m := by omega
      have hbr : b < wr.heap.size := HLr.1
      clear hs' hz' hkn hzn HLr
      have dk : decide ((k : Int) < (m : Int)) = true := by simp; omega
      have dk2 : decide (k < m) = true := by simp; omega
      go_wp2_with fail
      cases hsz : (s.toList == z.toList) with
      | false =>
        have HNX : Hid (¬ X) := hid (fun h => by rw [(HNXT.out.1 h).1] at hsz; simp at hsz)
        go_quiet (fail)
        have HBq := hid (below_drewS HB.out nq)
        go_wp2_with fail
        go_ret
        exact ⟨⟨k, rfl, HNE.out k (fun h => HNX.out (by rw [← HX.out]; exact h)) rfl⟩, HBq.out⟩
      | true =>
        have HSZ : Hid (s = z) := hid (toList_inj (by simpa using hsz))
        have HCS : Hid (∀ w', Below wr.heap.size wr w' → (Below wr.heap.size wr w' ∧ w'.cell? ⟨b, off + k * 5, none⟩ = some (.slice (some ⟨kb, ko, none⟩) kn kc) ∧ w'.cell? ⟨b, off + k * 5 + 1, none⟩ = some (.bool kf) ∧ w'.cell? ⟨b, off + k * 5 + 2, none⟩ = some (.int .i64 kr) ∧ w'.cell? ⟨b, off + k * 5 + 3, none⟩ = some (.int .i64 kq) ∧ w'.cell? ⟨b, off + k * 5 + 4, none⟩ = some (.string kv) ∧ w'.cell? ⟨kb, ko + d, none⟩ = some (.string s) ∧ w'.cell? ⟨b, off, none⟩ = some (.slice (some ⟨zb, zo, none⟩) zn zc) ∧ w'.cell? ⟨b, off + 1, none⟩ = some (.bool zf) ∧ w'.cell? ⟨b, off + 2, none⟩ = some (.int .i64 zr) ∧ w'.cell? ⟨b, off + 3, none⟩ = some (.int .i64 zq) ∧ w'.cell? ⟨b, off + 4, none⟩ = some (.string zv) ∧ w'.cell? ⟨zb, zo + d, none⟩ = some (.string z))) := hid (fun w' hB => ⟨hB, (hB.cell (p := ⟨b, _, none⟩) hbr).trans h0, (hB.cell (p := ⟨b, _, none⟩) hbr).trans h1, (hB.cell (p := ⟨b, _, none⟩) hbr).trans h2, (hB.cell (p := ⟨b, _, none⟩) hbr).trans h3, (hB.cell (p := ⟨b, _, none⟩) hbr).trans h4, (hB.cell (p := ⟨kb, _, none⟩) hkb).trans h5, (hB.cell (p := ⟨b, _, none⟩) hbr).trans g0, (hB.cell (p := ⟨b, _, none⟩) hbr).trans g1, (hB.cell (p := ⟨b, _, none⟩) hbr).trans g2, (hB.cell (p := ⟨b, _, none⟩) hbr).trans g3, (hB.cell (p := ⟨b, _, none⟩) hbr).trans g4, (hB.cell (p := ⟨zb, _, none⟩) hzb).trans g5⟩)
        clear h0 h1 h2 h3 h4 h5 g0 g1 g2 g3 g4 g5
        refine wp_region_held_drew (S := fun w' => Below wr.heap.size wr w' ∧ w'.cell? ⟨b, off + k * 5, none⟩ = some (.slice (some ⟨kb, ko, none⟩) kn kc) ∧ w'.cell? ⟨b, off + k * 5 + 1, none⟩ = some (.bool kf) ∧ w'.cell? ⟨b, off + k * 5 + 2, none⟩ = some (.int .i64 kr) ∧ w'.cell? ⟨b, off + k * 5 + 3, none⟩ = some (.int .i64 kq) ∧ w'.cell? ⟨b, off + k * 5 + 4, none⟩ = some (.string kv) ∧ w'.cell? ⟨kb, ko + d, none⟩ = some (.string s) ∧ w'.cell? ⟨b, off, none⟩ = some (.slice (some ⟨zb, zo, none⟩) zn zc) ∧ w'.cell? ⟨b, off + 1, none⟩ = some (.bool zf) ∧ w'.cell? ⟨b, off + 2, none⟩ = some (.int .i64 zr) ∧ w'.cell? ⟨b, off + 3, none⟩ = some (.int .i64 zq) ∧ w'.cell? ⟨b, off + 4, none⟩ = some (.string zv) ∧ w'.cell? ⟨zb, zo + d, none⟩ = some (.string z)) (by kernel_rfl) (HCS.out _ (Below.refl _ _).drew) (fun hHeld => ?_)
        refine take1 (i := 0) (d := some 6) (v := ?_) (by kernel_rfl) (by kernel_rfl) (by kernel_rfl) (by kernel_rfl) (fun _ _ _ h => h) ?_ hHeld ?_
        rotate_left
        · (intro o ho; simp only [List.getElem?_toArray, List.getElem?_cons_succ, List.getElem?_cons_zero, Option.some.injEq] at ho; subst ho; refine Or.inl ⟨by rfl, ?_⟩; intro w hSw; (try dsimp only at hSw); go_simp; try with_reducible rfl)
        try simp only [Act.put, List.setIfInBounds_toArray, List.set_cons_zero, List.set_cons_succ]
        refine take1 (i := 1) (d := some 7) (v := ?_) (by kernel_rfl) (by kernel_rfl) (by kernel_rfl) (by kernel_rfl) (fun _ _ _ h => h) ?_ hHeld ?_
        rotate_left
        · (intro o ho; simp only [List.getElem?_toArray, List.getElem?_cons_succ, List.getElem?_cons_zero, Option.some.injEq] at ho; subst ho; refine Or.inl ⟨by rfl, ?_⟩; intro w hSw; (try dsimp only at hSw); go_simp; try with_reducible rfl)
        try simp only [Act.put, List.setIfInBounds_toArray, List.set_cons_zero, List.set_cons_succ]
        refine take1 (i := 2) (d := some 8) (v := ?_) (by kernel_rfl) (by kernel_rfl) (by kernel_rfl) (by kernel_rfl) (fun _ _ _ h => h) ?_ hHeld ?_
        rotate_left
        · (intro o ho; simp only [List.getElem?_toArray, List.getElem?_cons_succ, List.getElem?_cons_zero, Option.some.injEq] at ho; subst ho; refine Or.inl ⟨by rfl, ?_⟩; intro w hSw; (try dsimp only at hSw); go_simp; try with_reducible rfl)
        try simp only [Act.put, List.setIfInBounds_toArray, List.set_cons_zero, List.set_cons_succ]
        refine take1 (i := 3) (d := some 9) (v := ?_) (by kernel_rfl) (by kernel_rfl) (by kernel_rfl) (by kernel_rfl) (fun _ _ _ h => h) ?_ hHeld ?_
        rotate_left
        · (intro o ho; simp only [List.getElem?_toArray, List.getElem?_cons_succ, List.getElem?_cons_zero, Option.some.injEq] at ho; subst ho; refine Or.inl ⟨by rfl, ?_⟩; intro w hSw; (try dsimp only at hSw); go_simp; try with_reducible rfl)
        try simp only [Act.put, List.setIfInBounds_toArray, List.set_cons_zero, List.set_cons_succ]
        refine take1 (i := 4) (d := some 10) (v := ?_) (by kernel_rfl) (by kernel_rfl) (by kernel_rfl) (by kernel_rfl) (fun _ _ _ h => h) ?_ hHeld ?_
        rotate_left
        · (intro o ho; simp only [List.getElem?_toArray, List.getElem?_cons_succ, List.getElem?_cons_zero, Option.some.injEq] at ho; subst ho; refine Or.inl ⟨by rfl, ?_⟩; intro w hSw; (try dsimp only at hSw); go_simp; try with_reducible rfl)
        try simp only [Act.put, List.setIfInBounds_toArray, List.set_cons_zero, List.set_cons_succ]
        refine take1 (i := 5) (d := some 11) (v := ?_) (by kernel_rfl) (by kernel_rfl) (by kernel_rfl) (by kernel_rfl) (fun _ _ _ h => h) ?_ hHeld ?_
        rotate_left
        · (intro o ho; simp only [List.getElem?_toArray, List.getElem?_cons_succ, List.getElem?_cons_zero, Option.some.injEq] at ho; subst ho; refine Or.inl ⟨by rfl, ?_⟩; intro w hSw; (try dsimp only at hSw); go_simp; try with_reducible rfl)
        try simp only [Act.put, List.setIfInBounds_toArray, List.set_cons_zero, List.set_cons_succ]
        refine take1 (i := 6) (d := some 12) (v := ?_) (by kernel_rfl) (by kernel_rfl) (by kernel_rfl) (by kernel_rfl) (fun _ _ _ h => h) ?_ hHeld ?_
        rotate_left
        · (intro o ho; simp only [List.getElem?_toArray, List.getElem?_cons_succ, List.getElem?_cons_zero, Option.some.injEq] at ho; subst ho; refine Or.inl ⟨by rfl, ?_⟩; intro w hSw; (try dsimp only at hSw); go_simp; try with_reducible rfl)
        try simp only [Act.put, List.setIfInBounds_toArray, List.set_cons_zero, List.set_cons_succ]
        refine take1 (i := 7) (d := some 13) (v := ?_) (by kernel_rfl) (by kernel_rfl) (by kernel_rfl) (by kernel_rfl) (fun _ _ _ h => h) ?_ hHeld ?_
        rotate_left
        · (intro o ho; simp only [List.getElem?_toArray, List.getElem?_cons_succ, List.getElem?_cons_zero, Option.some.injEq] at ho; subst ho; refine Or.inl ⟨by rfl, ?_⟩; intro w hSw; (try dsimp only at hSw); go_simp; try with_reducible rfl)
        try simp only [Act.put, List.setIfInBounds_toArray, List.set_cons_zero, List.set_cons_succ]
        refine take1 (i := 8) (d := some 14) (v := ?_) (by kernel_rfl) (by kernel_rfl) (by kernel_rfl) (by kernel_rfl) (fun _ _ _ h => h) ?_ hHeld ?_
        rotate_left
        · (intro o ho; simp only [List.getElem?_toArray, List.getElem?_cons_succ, List.getElem?_cons_zero, Option.some.injEq] at ho; subst ho; refine Or.inl ⟨by rfl, ?_⟩; intro w hSw; (try dsimp only at hSw); go_simp; try with_reducible rfl)
        try simp only [Act.put, List.setIfInBounds_toArray, List.set_cons_zero, List.set_cons_succ]
        refine take1 (i := 9) (d := some 15) (v := ?_) (by kernel_rfl) (by kernel_rfl) (by kernel_rfl) (by kernel_rfl) (fun _ _ _ h => h) ?_ hHeld ?_
        rotate_left
        · (intro o ho; simp only [List.getElem?_toArray, List.getElem?_cons_succ, List.getElem?_cons_zero, Option.some.injEq] at ho; subst ho; refine Or.inl ⟨by rfl, ?_⟩; intro w hSw; (try dsimp only at hSw); go_simp; try with_reducible rfl)
        try simp only [Act.put, List.setIfInBounds_toArray, List.set_cons_zero, List.set_cons_succ]
        refine take1 (i := 10) (d := some 16) (v := ?_) (by kernel_rfl) (by kernel_rfl) (by kernel_rfl) (by kernel_rfl) (fun _ _ _ h => h) ?_ hHeld ?_
        rotate_left
        · (intro o ho; simp only [List.getElem?_toArray, List.getElem?_cons_succ, List.getElem?_cons_zero, Option.some.injEq] at ho; subst ho; refine Or.inl ⟨by rfl, ?_⟩; intro w hSw; (try dsimp only at hSw); go_simp; try with_reducible rfl)
        try simp only [Act.put, List.setIfInBounds_toArray, List.set_cons_zero, List.set_cons_succ]
        refine take1 (i := 11) (d := some 17) (v := ?_) (by kernel_rfl) (by kernel_rfl) (by kernel_rfl) (by kernel_rfl) (fun _ _ _ h => h) ?_ hHeld ?_
        rotate_left
        · (intro o ho; simp only [List.getElem?_toArray, List.getElem?_cons_succ, List.getElem?_cons_zero, Option.some.injEq] at ho; subst ho; refine Or.inl ⟨by rfl, ?_⟩; intro w hSw; (try dsimp only at hSw); go_simp; try with_reducible rfl)
        try simp only [Act.put, List.setIfInBounds_toArray, List.set_cons_zero, List.set_cons_succ]
        refine take1 (i := 12) (d := some 18) (v := ?_) (by kernel_rfl) (by kernel_rfl) (by kernel_rfl) (by kernel_rfl) (fun _ _ _ h => h) ?_ hHeld ?_
        rotate_left
        · (intro o ho; simp only [List.getElem?_toArray, List.getElem?_cons_succ, List.getElem?_cons_zero, Option.some.injEq] at ho; subst ho; refine Or.inl ⟨by rfl, ?_⟩; intro w hSw; (try dsimp only at hSw); go_simp; try with_reducible rfl)
        try simp only [Act.put, List.setIfInBounds_toArray, List.set_cons_zero, List.set_cons_succ]
        refine take1 (i := 13) (d := some 19) (v := ?_) (by kernel_rfl) (by kernel_rfl) (by kernel_rfl) (by kernel_rfl) (fun _ _ _ h => h) ?_ hHeld ?_
        rotate_left
        · (intro o ho; simp only [List.getElem?_toArray, List.getElem?_cons_succ, List.getElem?_cons_zero, Option.some.injEq] at ho; subst ho; refine Or.inl ⟨by rfl, ?_⟩; intro w hSw; (try dsimp only at hSw); go_simp; try with_reducible rfl)
        try simp only [Act.put, List.setIfInBounds_toArray, List.set_cons_zero, List.set_cons_succ]
        refine take1 (i := 14) (d := some 20) (v := ?_) (by kernel_rfl) (by kernel_rfl) (by kernel_rfl) (by kernel_rfl) (fun _ _ _ h => h) ?_ hHeld ?_
        rotate_left
        · (intro o ho; simp only [List.getElem?_toArray, List.getElem?_cons_succ, List.getElem?_cons_zero, Option.some.injEq] at ho; subst ho; refine Or.inl ⟨by rfl, ?_⟩; intro w hSw; (try dsimp only at hSw); go_simp; try with_reducible rfl)
        try simp only [Act.put, List.setIfInBounds_toArray, List.set_cons_zero, List.set_cons_succ]
        refine take1 (i := 15) (d := some 21) (v := ?_) (by kernel_rfl) (by kernel_rfl) (by kernel_rfl) (by kernel_rfl) (fun _ _ _ h => h) ?_ hHeld ?_
        rotate_left
        · (intro o ho; simp only [List.getElem?_toArray, List.getElem?_cons_succ, List.getElem?_cons_zero, Option.some.injEq] at ho; subst ho; refine Or.inl ⟨by rfl, ?_⟩; intro w hSw; (try dsimp only at hSw); go_simp; try with_reducible rfl)
        try simp only [Act.put, List.setIfInBounds_toArray, List.set_cons_zero, List.set_cons_succ]
        refine take1 (i := 16) (d := some 22) (v := ?_) (by kernel_rfl) (by kernel_rfl) (by kernel_rfl) (by kernel_rfl) (fun _ _ _ h => h) ?_ hHeld ?_
        rotate_left
        · (intro o ho; simp only [List.getElem?_toArray, List.getElem?_cons_succ, List.getElem?_cons_zero, Option.some.injEq] at ho; subst ho; refine Or.inl ⟨by rfl, ?_⟩; intro w hSw; (try dsimp only at hSw); go_simp; try with_reducible rfl)
        try simp only [Act.put, List.setIfInBounds_toArray, List.set_cons_zero, List.set_cons_succ]
        refine take1 (i := 17) (d := some 23) (v := ?_) (by kernel_rfl) (by kernel_rfl) (by kernel_rfl) (by kernel_rfl) (fun _ _ _ h => h) ?_ hHeld ?_
        rotate_left
        · (intro o ho; simp only [List.getElem?_toArray, List.getElem?_cons_succ, List.getElem?_cons_zero, Option.some.injEq] at ho; subst ho; refine Or.inl ⟨by rfl, ?_⟩; intro w hSw; (try dsimp only at hSw); go_simp; try with_reducible rfl)
        try simp only [Act.put, List.setIfInBounds_toArray, List.set_cons_zero, List.set_cons_succ]
        refine take1 (i := 18) (d := some 24) (v := ?_) (by kernel_rfl) (by kernel_rfl) (by kernel_rfl) (by kernel_rfl) (fun _ _ _ h => h) ?_ hHeld ?_
        rotate_left
        · (intro o ho; simp only [List.getElem?_toArray, List.getElem?_cons_succ, List.getElem?_cons_zero, Option.some.injEq] at ho; subst ho; refine Or.inl ⟨by rfl, ?_⟩; intro w hSw; (try dsimp only at hSw); go_simp; try with_reducible rfl)
        try simp only [Act.put, List.setIfInBounds_toArray, List.set_cons_zero, List.set_cons_succ]
        refine take1 (i := 19) (d := some 25) (v := ?_) (by kernel_rfl) (by kernel_rfl) (by kernel_rfl) (by kernel_rfl) (fun _ _ _ h => h) ?_ hHeld ?_
        rotate_left
        · (intro o ho; simp only [List.getElem?_toArray, List.getElem?_cons_succ, List.getElem?_cons_zero, Option.some.injEq] at ho; subst ho; refine Or.inl ⟨by rfl, ?_⟩; intro w hSw; (try dsimp only at hSw); go_simp; try with_reducible rfl)
        try simp only [Act.put, List.setIfInBounds_toArray, List.set_cons_zero, List.set_cons_succ]
        refine take1 (i := 20) (d := some 26) (v := ?_) (by kernel_rfl) (by kernel_rfl) (by kernel_rfl) (by kernel_rfl) (fun _ _ _ h => h) ?_ hHeld ?_
        rotate_left
        · (intro o ho; simp only [List.getElem?_toArray, List.getElem?_cons_succ, List.getElem?_cons_zero, Option.some.injEq] at ho; subst ho; refine Or.inl ⟨by rfl, ?_⟩; intro w hSw; (try dsimp only at hSw); go_simp; try with_reducible rfl)
        try simp only [Act.put, List.setIfInBounds_toArray, List.set_cons_zero, List.set_cons_succ]
        refine take1 (i := 21) (d := some 27) (v := ?_) (by kernel_rfl) (by kernel_rfl) (by kernel_rfl) (by kernel_rfl) (fun _ _ _ h => h) ?_ hHeld ?_
        rotate_left
        · (intro o ho; simp only [List.getElem?_toArray, List.getElem?_cons_succ, List.getElem?_cons_zero, Option.some.injEq] at ho; subst ho; refine Or.inl ⟨by rfl, ?_⟩; intro w hSw; (try dsimp only at hSw); go_simp; try with_reducible rfl)
        try simp only [Act.put, List.setIfInBounds_toArray, List.set_cons_zero, List.set_cons_succ]
        refine take1 (i := 22) (d := some 28) (v := ?_) (by kernel_rfl) (by kernel_rfl) (by kernel_rfl) (by kernel_rfl) (fun _ _ _ h => h) ?_ hHeld ?_
        rotate_left
        · (intro o ho; simp only [List.getElem?_toArray, List.getElem?_cons_succ, List.getElem?_cons_zero, Option.some.injEq] at ho; subst ho; refine Or.inl ⟨by rfl, ?_⟩; intro w hSw; (try dsimp only at hSw); go_simp; try with_reducible rfl)
        try simp only [Act.put, List.setIfInBounds_toArray, List.set_cons_zero, List.set_cons_succ]
        refine take1 (i := 23) (d := some 29) (v := ?_) (by kernel_rfl) (by kernel_rfl) (by kernel_rfl) (by kernel_rfl) (fun _ _ _ h => h) ?_ hHeld ?_
        rotate_left
        · (intro o ho; simp only [List.getElem?_toArray, List.getElem?_cons_succ, List.getElem?_cons_zero, Option.some.injEq] at ho; subst ho; refine Or.inl ⟨by rfl, ?_⟩; intro w hSw; (try dsimp only at hSw); go_simp; try with_reducible rfl)
        try simp only [Act.put, List.setIfInBounds_toArray, List.set_cons_zero, List.set_cons_succ]
        refine take1 (i := 24) (d := some 30) (v := ?_) (by kernel_rfl) (by kernel_rfl) (by kernel_rfl) (by kernel_rfl) (fun _ _ _ h => h) ?_ hHeld ?_
        rotate_left
        · (intro o ho; simp only [List.getElem?_toArray, List.getElem?_cons_succ, List.getElem?_cons_zero, Option.some.injEq] at ho; subst ho; refine Or.inl ⟨by rfl, ?_⟩; intro w hSw; (try dsimp only at hSw); go_simp; try with_reducible rfl)
        try simp only [Act.put, List.setIfInBounds_toArray, List.set_cons_zero, List.set_cons_succ]
        refine take1 (i := 25) (d := some 31) (v := ?_) (by kernel_rfl) (by kernel_rfl) (by kernel_rfl) (by kernel_rfl) (fun _ _ _ h => h) ?_ hHeld ?_
        rotate_left
        · (intro o ho; simp only [List.getElem?_toArray, List.getElem?_cons_succ, List.getElem?_cons_zero, Option.some.injEq] at ho; subst ho; refine Or.inl ⟨by rfl, ?_⟩; intro w hSw; (try dsimp only at hSw); go_simp; try with_reducible rfl)
        try simp only [Act.put, List.setIfInBounds_toArray, List.set_cons_zero, List.set_cons_succ]
        refine take1 (i := 26) (d := some 32) (v := ?_) (by kernel_rfl) (by kernel_rfl) (by kernel_rfl) (by kernel_rfl) (fun _ _ _ h => h) ?_ hHeld ?_
        rotate_left
        · (intro o ho; simp only [List.getElem?_toArray, List.getElem?_cons_succ, List.getElem?_cons_zero, Option.some.injEq] at ho; subst ho; refine Or.inl ⟨by rfl, ?_⟩; intro w hSw; (try dsimp only at hSw); go_simp; try with_reducible rfl)
        try simp only [Act.put, List.setIfInBounds_toArray, List.set_cons_zero, List.set_cons_succ]
        refine take1 (i := 27) (d := some 33) (v := ?_) (by kernel_rfl) (by kernel_rfl) (by kernel_rfl) (by kernel_rfl) (fun _ _ _ h => h) ?_ hHeld ?_
        rotate_left
        · (intro o ho; simp only [List.getElem?_toArray, List.getElem?_cons_succ, List.getElem?_cons_zero, Option.some.injEq] at ho; subst ho; refine Or.inl ⟨by rfl, ?_⟩; intro w hSw; (try dsimp only at hSw); go_simp; try with_reducible rfl)
        try simp only [Act.put, List.setIfInBounds_toArray, List.set_cons_zero, List.set_cons_succ]
        refine take1 (i := 29) (d := some 35) (v := ?_) (by kernel_rfl) (by kernel_rfl) (by kernel_rfl) (by kernel_rfl) (fun _ _ _ h => h) ?_ hHeld ?_
        rotate_left
        · (intro o ho; simp only [List.getElem?_toArray, List.getElem?_cons_succ, List.getElem?_cons_zero, Option.some.injEq] at ho; subst ho; refine Or.inl ⟨by rfl, ?_⟩; intro w hSw; (try dsimp only at hSw); go_simp; try with_reducible rfl)
        try simp only [Act.put, List.setIfInBounds_toArray, List.set_cons_zero, List.set_cons_succ]
        refine take1 (i := 30) (d := some 36) (v := ?_) (by kernel_rfl) (by kernel_rfl) (by kernel_rfl) (by kernel_rfl) (fun _ _ _ h => h) ?_ hHeld ?_
        rotate_left
        · (intro o ho; simp only [List.getElem?_toArray, List.getElem?_cons_succ, List.getElem?_cons_zero, Option.some.injEq] at ho; subst ho; refine Or.inl ⟨by rfl, ?_⟩; intro w hSw; (try dsimp only at hSw); go_simp; try with_reducible rfl)
        try simp only [Act.put, List.setIfInBounds_toArray, List.set_cons_zero, List.set_cons_succ]
        refine take1 (i := 31) (d := some 37) (v := ?_) (by kernel_rfl) (by kernel_rfl) (by kernel_rfl) (by kernel_rfl) (fun _ _ _ h => h) ?_ hHeld ?_
        rotate_left
        · (intro o ho; simp only [List.getElem?_toArray, List.getElem?_cons_succ, List.getElem?_cons_zero, Option.some.injEq] at ho; subst ho; refine Or.inl ⟨by rfl, ?_⟩; intro w hSw; (try dsimp only at hSw); go_simp; try with_reducible rfl)
        try simp only [Act.put, List.setIfInBounds_toArray, List.set_cons_zero, List.set_cons_succ]
        refine take1 (i := 32) (d := some 38) (v := ?_) (by kernel_rfl) (by kernel_rfl) (by kernel_rfl) (by kernel_rfl) (fun _ _ _ h => h) ?_ hHeld ?_
        rotate_left
        · (intro o ho; simp only [List.getElem?_toArray, List.getElem?_cons_succ, List.getElem?_cons_zero, Option.some.injEq] at ho; subst ho; refine Or.inl ⟨by rfl, ?_⟩; intro w hSw; (try dsimp only at hSw); go_simp; try with_reducible rfl)
        try simp only [Act.put, List.setIfInBounds_toArray, List.set_cons_zero, List.set_cons_succ]
        refine call1 (i := 28) (d := some 34) (by kernel_rfl) (by kernel_rfl) ?_
        intro o ho hod K hK; simp only [List.getElem?_toArray, List.getElem?_cons_succ, List.getElem?_cons_zero, Option.some.injEq] at ho; subst ho
        go_simp
        refine (l4KindC (some ⟨kb, ko, none⟩) kn kc kf kr kq kv d _ (by omega) hd).mono ?_
        rintro e w1 ⟨rfl, b1⟩
        have hB1 := keepS hHeld.1 b1
        refine hK.out _ _ (HCS.out _ hB1) (fun hHeld => ?_)
        clear hK K
        try simp only [Act.put, List.setIfInBounds_toArray, List.set_cons_zero, List.set_cons_succ]
        refine call1 (i := 33) (d := some 39) (by kernel_rfl) (by kernel_rfl) ?_
        intro o ho hod K hK; simp only [List.getElem?_toArray, List.getElem?_cons_succ, List.getElem?_cons_zero, Option.some.injEq] at ho; subst ho
        go_simp
        refine (l4KindC (some ⟨zb, zo, none⟩) zn zc zf zr zq zv d _ (by omega) hd).mono ?_
        rintro e w2 ⟨rfl, b2⟩
        have hB2 := keepS hB1 b2
        refine hK.out _ _ (HCS.out _ hB2) (fun hHeld => ?_)
        clear hK K
        try simp only [Act.put, List.setIfInBounds_toArray, List.set_cons_zero, List.set_cons_succ]
        have HB2 := hid (HB.out.trans (hB2.mono HB.out.size))
        obtain ⟨K1, hK1⟩ : ∃ K1, kAt d kn kf = K1 := ⟨_, rfl⟩
        obtain ⟨K2, hK2⟩ : ∃ K2, kAt d zn zf = K2 := ⟨_, rfl⟩
        rw [hK1, hK2] at HNXT ⊢
        clear hK1 hK2 b1 b2
        cases hkk : (K1 == K2) with
        | false =>
          refine take1 (i := 34) (d := some 40) (v := ?_) (by kernel_rfl) (by kernel_rfl) (by kernel_rfl) (by kernel_rfl) (fun _ _ _ h => h) ?_ hHeld ?_
          rotate_left
          · (intro o ho; simp only [List.getElem?_toArray, List.getElem?_cons_succ, List.getElem?_cons_zero, Option.some.injEq] at ho; subst ho; refine Or.inl ⟨by rfl, ?_⟩; intro w hSw; (try dsimp only at hSw); go_simp; try with_reducible rfl)
          try simp only [Act.put, List.setIfInBounds_toArray, List.set_cons_zero, List.set_cons_succ]
          refine take1 (i := 35) (d := some 41) (v := ?_) (by kernel_rfl) (by kernel_rfl) (by kernel_rfl) (by kernel_rfl) (fun _ _ _ h => h) ?_ hHeld ?_
          rotate_left
          · (intro o ho; simp only [List.getElem?_toArray, List.getElem?_cons_succ, List.getElem?_cons_zero, Option.some.injEq] at ho; subst ho; refine Or.inl ⟨by rfl, ?_⟩; intro w hSw; (try dsimp only at hSw); go_simp; try with_reducible rfl)
          try simp only [Act.put, List.setIfInBounds_toArray, List.set_cons_zero, List.set_cons_succ]
          refine wpAnyH_done (by kernel_rfl) ?_ _
          have HNX : Hid (¬ X) := hid (fun h => by rw [(HNXT.out.1 h).2] at hkk; simp at hkk)
          clear hHeld hB1 hB2
          go_wp2_with fail
          go_ret
          exact ⟨⟨k, rfl, HNE.out k (fun h => HNX.out (by rw [← HX.out]; exact h)) rfl⟩, HB2.out⟩
        | true =>
          refine take1 (i := 34) (d := some 40) (v := ?_) (by kernel_rfl) (by kernel_rfl) (by kernel_rfl) (by kernel_rfl) (fun _ _ _ h => h) ?_ hHeld ?_
          rotate_left
          · (intro o ho; simp only [List.getElem?_toArray, List.getElem?_cons_succ, List.getElem?_cons_zero, Option.some.injEq] at ho; subst ho; refine Or.inl ⟨by rfl, ?_⟩; intro w hSw; (try dsimp only at hSw); go_simp; try with_reducible rfl)
          try simp only [Act.put, List.setIfInBounds_toArray, List.set_cons_zero, List.set_cons_succ]
          refine take1 (i := 35) (d := some 41) (v := ?_) (by kernel_rfl) (by kernel_rfl) (by kernel_rfl) (by kernel_rfl) (fun _ _ _ h => h) ?_ hHeld ?_
          rotate_left
          · (intro o ho; simp only [List.getElem?_toArray, List.getElem?_cons_succ, List.getElem?_cons_zero, Option.some.injEq] at ho; subst ho; refine Or.inl ⟨by rfl, ?_⟩; intro w hSw; (try dsimp only at hSw); go_simp; try with_reducible rfl)
          try simp only [Act.put, List.setIfInBounds_toArray, List.set_cons_zero, List.set_cons_succ]
          refine wpAnyH_done (by kernel_rfl) ?_ _
          have HNX : Hid X := hid (HNXT.out.2 ⟨HSZ.out, by simpa using hkk⟩)
          clear hHeld hB1 hB2
          go_wp2_with fail
          go_roundw
          case rel => exact ⟨k + 1, hlt, by go_num, hid (HGO.out (by rw [HX.out]; exact HNX.out)), HB2⟩
          case measure => simp [intOf]; omega
    · obtain rfl : k = m := by omega
      have dk : decide ((k : Int) < (k : Int)) = false := by simp
      have dk2 : decide (k < k) = false := by simp
      go_wp2_with fail
      go_quiet (fail)
      have HBq := hid (below_drewS HB.out nq)
      go_wp2_with fail
      go_ret
      exact ⟨⟨k, rfl, hm, Nat.le_refl _, HE.out, fun h => by omega⟩, HBq.out⟩
end Go.Proofs.YtdenbicnckkdfaaGreat
