import Derived.Test.YtakmpmhjcngbbaaGreatDoorMgg15
import Derived.Test.YtakmpmhjcngbbaaGreatDoorMgg17
import Derived.Test.YtakmpmhjcngbbaaGreatDoorMgg28
import Derived.Test.YtakmpmhjcngbbaaGreatDoorMgg20
import Derived.Test.YtakmpmhjcngbbaaGreatDoorMgg05
set_option linter.unusedVariables false
set_option linter.unusedSimpArgs false
set_option maxRecDepth 100000
set_option maxHeartbeats 40000000
namespace Go.Proofs.YtakmpmhjcngbbaaGreatDoor
open Go.ChangeShapes Go.WideShapes Go.ChangeAt Go.RowKit
theorem wp_app2 {P : Program} {o : Oper} {a : Act} {w w' : World} {K : Act → World → Prop} {Q : Exit → Act → World → Prop} (s x : Operand) (t u : TypeId) (ho : o.op = .call { callee := .builtin .append, args := #[s, x], argTypes := #[t, u] }) {v x' v' : Value} {t' : TypeId} (hr : (Builtin.append_ #[t, u] t' #[v, x']).run P w = .ok v' w') (hs : a.eval s = v) (hx : a.eval x = x') (ht : o.type = t') (h : K (a.put o.dst v') w') : Oper.wp P o a w K Q := by
  subst ht
  unfold Oper.wp execOp
  simp only [ho, resolve, invoke, builtin, Sem.run_bind, Sem.run_pure, Result.andThen_ok, List.map_toArray, List.map_cons, List.map_nil, hs, hx, hr]
  exact h
theorem wpList_app2 {P : Program} {ops : Array Oper} {rest : List Oper} {o : Oper} {a : Act} {w w' : World} {Q : Exit → Act → World → Prop} (hgd : o.guard = none) (s x : Operand) (t u : TypeId) (ho : o.op = .call { callee := .builtin .append, args := #[s, x], argTypes := #[t, u] }) {v x' v' : Value} {t' : TypeId} (hr : (Builtin.append_ #[t, u] t' #[v, x']).run P w = .ok v' w') (hs : a.eval s = v) (hx : a.eval x = x') (ht : o.type = t') (h : wpList P ops Q rest (a.put o.dst v') w') : wpList P ops Q (o :: rest) a w := by
  refine wpList_plain hgd fun K hK => ?_
  exact wp_app2 s x t u ho hr hs hx ht (hK _ _ h)
theorem bytesApp (B : Nat) (v : Value) (zs ns : List Int) (a : Addr) (m c : Nat) (w : World) (ho : Own w B v zs) (hm : ns.length = m) (hn : ∀ i u, (ns.map (Value.int .u8))[i]? = some u → w.cell? (a.add i) = some u) (hB : B ≤ w.heap.size) (hl : zs.length + m ≤ 10000000000) :
    ∃ v' w', (Builtin.append_ #[22, 22] 22 #[v, .slice (some a) m c]).run Tryz.prog w = .ok v' w' ∧ Own w' B v' (zs ++ ns) ∧ Gr w w' v v' := by
  obtain ⟨i0, hi, hz0, hz1, hz2⟩ := info_parts Tryz.infoByte
  have ho' : w.ownsRow B 5 1 v zs.length (zs.map (Value.int .u8)) := ho
  obtain ⟨v', w', hr, h2, h3, h4, h5⟩ := run_append_own_at (P := Tryz.prog) w B 22 22 5 i0 (.int .u8 0) 1 1 Tryz.underlying22 hi hz0 hz1 hz2 rfl (by decide) v zs.length _ ho' a m c (ns.map (Value.int .u8)) (by simp [hm]) hn (fun u hu => by obtain ⟨z, _, rfl⟩ := List.mem_map.1 hu; rfl) (by unfold maxLen; omega) (by omega) hB
  refine ⟨v', w', hr, ?_, Gr.app h3 h5⟩
  unfold Own
  rw [List.length_append, List.map_append, hm]
  exact h2
structure LvB (l : List Lf) : Prop where
  rep : ∀ i, i < l.length → 0 ≤ (gL l i).r ∧ (gL l i).r < 8
  seq : ∀ i, i < l.length → 0 ≤ (gL l i).q ∧ (gL l i).q ≤ 1000000000
  val : ∀ i, i < l.length → (gL l i).v.size ≤ 200
  len : l.length ≤ 1000
  dis : Dis l l.length
theorem appO (B B' : Nat) (v x : Value) (zs ns : List Int) (w : World) (ho : Own w B v zs) (hx : Own w B' x ns) (hxn : x.ownBlock ≠ none) (hB : B ≤ w.heap.size) (hl : zs.length + ns.length ≤ 1000000000) :
    ∃ v' w', (Builtin.append_ #[22, 22] 22 #[v, x]).run Tryz.prog w = .ok v' w' ∧ Own w' B v' (zs ++ ns) ∧ Gr w w' v v' ∧ (v.ownBlock ≠ none → v'.ownBlock ≠ none) := by
  have hx' : w.ownsRow B' 5 1 x ns.length (ns.map (Value.int .u8)) := hx
  rcases hx'.2 with ⟨rfl, _⟩ | ⟨g, cap, cur, rfl, _⟩
  · exact absurd rfl hxn
  obtain ⟨v', w', h1, h2, h3⟩ := bytesApp B v zs ns ⟨g, 0, none⟩ ns.length cap w ho rfl (World.ownsRow.cells hx' rfl) hB (by omega)
  refine ⟨v', w', h1, h2, h3, fun hv => ?_⟩
  rcases h3.l with e | ⟨k, e, _⟩
  · rw [e]; exact hv
  · rw [e]; simp
theorem own_ne {w : World} {B : Nat} {v : Value} {zs : List Int} (h : Own w B v zs) (hz : 0 < zs.length) : v.ownBlock ≠ none := by
  obtain ⟨h1, h2⟩ := h
  rcases h2 with ⟨_, h2⟩ | ⟨g, cap, cur, rfl, _⟩
  · omega
  · simp [Value.ownBlock]
theorem tB_pos (l : List Lf) (f : Nat) (p : List ByteArray) : 0 < (tB l (f + 1) p).length := by
  rw [tB_eq, List.length_append]; have := (uvF_len 9 (kS l p l.length).length).2; omega
theorem kS_pre (l : List Lf) (p : List ByteArray) (k : Nat) : ∀ j, k ≤ j → kS l p k <+: kS l p j
  | 0, h => by rw [show k = 0 by omega]; exact List.prefix_refl _
  | j + 1, h => by
    by_cases e : k = j + 1
    · rw [e]; exact List.prefix_refl _
    · have ih := kS_pre l p k j (by omega)
      cases h1 : nx p (gL l j) with
      | none => rw [kS_none h1]; exact ih
      | some y =>
        rw [kS_some h1]
        split
        · exact ih
        · exact ih.trans (List.prefix_append _ _)
theorem flat_pre {α : Type} (f : α → List Int) {a b : List α} (h : a <+: b) : (a.flatMap f).length ≤ (b.flatMap f).length := by
  obtain ⟨c, rfl⟩ := h
  rw [List.flatMap_append, List.length_append]; omega
structure Bd (w wr : World) (body : Value) (zs : List Int) : Prop where
  b : Below w.heap.size w wr
  o : Own wr w.heap.size body zs
  n : body.ownBlock ≠ none
theorem Bd.keep {w wr w1 : World} {body : Value} {zs : List Int} (h : Bd w wr body zs) (hb : Below wr.heap.size wr w1) : Bd w w1 body zs :=
  ⟨h.b.trans (hb.mono h.b.size), Own.kept h.o hb (fun k hk => (World.ownsRow.lt h.o k hk).2), h.n⟩
theorem Bd.app {w wr w1 : World} {body v : Value} {zs ns : List Int} (h : Bd w wr body zs) (hb : Below wr.heap.size wr w1) (ho : Own w1 wr.heap.size v ns) (hz : 0 < ns.length) (hl : zs.length + ns.length ≤ 1000000000) :
    ∃ v' w2, (Builtin.append_ #[22, 22] 22 #[body, v]).run Tryz.prog w1 = .ok v' w2 ∧ Bd w w2 v' (zs ++ ns) := by
  have h1 := h.keep hb
  obtain ⟨v', w2, e, o2, g2, n2⟩ := appO w.heap.size wr.heap.size body v zs ns w1 h1.o ho (own_ne ho hz) h1.b.size hl
  exact ⟨v', w2, e, h1.b.trans (g2.below h1.b.size (fun k hk => (World.ownsRow.lt h1.o k hk).1)), o2, n2 h.n⟩
theorem Bd.byte {w wr : World} {body : Value} {zs : List Int} (h : Bd w wr body zs) (Y : Int) (hl : zs.length ≤ 1000000000) :
    ∃ v' w2, (Builtin.append_ #[22, 22] 22 #[body, .slice (some ⟨wr.heap.size, 0, none⟩) 1 1]).run Tryz.prog (wr.alloc (.cells #[.int .u8 Y] 5)) = .ok v' w2 ∧ Bd w w2 v' (zs ++ [Y]) := by
  have b1 : Below wr.heap.size wr (wr.alloc (.cells #[.int .u8 Y] 5)) := (Below.refl _ _).alloc (Nat.le_refl _) _
  have h1 := h.keep b1
  obtain ⟨v', w2, e, o2, g2⟩ := bytesApp w.heap.size body zs [Y] ⟨wr.heap.size, 0, none⟩ 1 1 (wr.alloc (.cells #[.int .u8 Y] 5)) h1.o rfl (fun i u hu => cell_one_new _ _ _ i u hu) h1.b.size (by omega)
  refine ⟨v', w2, e, h1.b.trans (g2.below h1.b.size (fun k hk => (World.ownsRow.lt h1.o k hk).1)), o2, ?_⟩
  rcases g2.l with e1 | ⟨k, e1, _⟩
  · rw [e1]; exact h.n
  · rw [e1]; simp
theorem grp_all {R F T : Nat → Int} {n : Nat} {l : List Lf} {p : List ByteArray} {i e J g : Nat} {y : Ky} (hlv : LvOk R F T n l l.length) (hI : Iv l p i e) (hij : i ≤ J) (hfr : y ∉ kS l p J) (h1 : 1 ≤ g) (hge : J + g ≤ e) (hy : onWay (gL l J).p (kd (gL l J).fl) p.length = y) (hsame : ∀ t, t < g → onWay (gL l (J + t)).p (kd (gL l (J + t)).fl) p.length = y) (hdiff : J + g < e → onWay (gL l (J + g)).p (kd (gL l (J + g)).fl) p.length ≠ y) :
    kS l p (J + g) = kS l p J ++ [y] ∧ dsK l p y l.length = ((List.range g).map fun t => gL l (J + t)) ∧ (∀ s, y = (s, 3) → Iv l (p ++ [s]) J (J + g)) ∧ ∀ z, nx p (gL l (J + g)) = some z → J + g < e → z ∉ kS l p (J + g) := by
  have hel := hI.2.2
  have hg : ∀ t, t < g → nx p (gL l (J + t)) = some y := fun t ht => by
    rw [nx_some]
    exact ⟨nx_ne.1 ((hI.1 (J + t) (by omega)).2 (by omega)), hsame t ht⟩
  have hs : J + g < e → nx p (gL l (J + g)) ≠ some y := fun hlt he => by
    rw [nx_some] at he
    exact hdiff hlt he.2
  have ho := grp_only hlv hI hij hfr h1 hge hg hs
  refine ⟨?_, grp_list ho (by omega), fun s es => by subst es; exact grp_map ho (by omega), fun z hz hlt => grp_next hlv hI hfr h1 hge hg hs hlt hz⟩
  have := grp_keys hfr hg (g - 1) (by omega)
  rwa [show J + (g - 1 + 1) = J + g by omega] at this
theorem Bd.made (w : World) : Bd w (w.alloc (.cells #[] 5)) (.slice (some ⟨w.heap.size, 0, none⟩) 0 0) [] := by
  refine ⟨(Below.refl _ _).alloc (Nat.le_refl _) _, ?_, by simp [Value.ownBlock]⟩
  have := World.ownsRow_lit (base := w.heap.size) (e := 5) (size := 1) w #[] 0 (by omega) (by unfold maxLen; omega) rfl
  simpa [Own] using this
theorem Bd.front {w wr w1 : World} {body u : Value} {zs ns : List Int} (h : Bd w wr body zs) (hb : Below wr.heap.size wr w1) (ho : Own w1 wr.heap.size u ns) (hl : ns.length + zs.length ≤ 1000000000) :
    ∃ v' w2, (Builtin.append_ #[22, 22] 22 #[u, body]).run Tryz.prog w1 = .ok v' w2 ∧ Own w2 w.heap.size v' (ns ++ zs) ∧ Below w.heap.size w w2 := by
  have h1 := h.keep hb
  have ho' := Own.weak ho h.b.size
  obtain ⟨v', w2, e, o2, g2, n2⟩ := appO w.heap.size w.heap.size u body ns zs w1 ho' h1.o h.n h1.b.size hl
  exact ⟨v', w2, e, o2, h1.b.trans (g2.below h1.b.size (fun k hk => (World.ownsRow.lt ho' k hk).1))⟩
structure Lp (l : List Lf) (p : List ByteArray) (w : World) (J M : Nat) (a : Option Addr) (c : Nat) : Prop where
  c1 : M ≤ c
  c2 : c ≤ 9223372036854775807
  a1 : 0 < M → ∃ b o, a = some ⟨b, o, none⟩ ∧ LAt w b o l J M
  fr : 0 < M → ∀ y, nx p (gL l J) = some y → y ∉ kS l p J
def sLen : Value → Nat
  | .slice _ n _ => n
  | _ => 0
theorem l4TreeStep {R F T : Nat → Int} {n : Nat} (l : List Lf) (hlv : LvOk R F T n l l.length) (hbd : LvB l) (f : Nat) (p : List ByteArray) (hpf : p.length + (f + 1) = 8)
    (ih : ∀ (s : ByteArray), 1 ≤ f → ∀ (i m c : Nat) (a : Option Addr) (w : World), m ≤ c → c ≤ 9223372036854775807 → Iv l (p ++ [s]) i (i + m) → (0 < m → ∃ b off, a = some ⟨b, off, none⟩ ∧ LAt w b off l i m) → (tB l f (p ++ [s])).length ≤ 90000000 →
      Calls Tryz.prog 46 #[.slice a m c, .int .i64 ((p ++ [s]).length : Int)] w fun e w' => ∃ v, e = .returned v ∧ Own w' w.heap.size v (tB l f (p ++ [s])) ∧ Below w.heap.size w w')
    (i m c : Nat) (a : Option Addr) (w : World) (hmc : m ≤ c) (hcm : c ≤ 9223372036854775807) (hI : Iv l p i (i + m)) (hL : 0 < m → ∃ b off, a = some ⟨b, off, none⟩ ∧ LAt w b off l i m) (hl : (tB l (f + 1) p).length ≤ 90000000) :
    Calls Tryz.prog 46 #[.slice a m c, .int .i64 (p.length : Int)] w fun e w' => ∃ v, e = .returned v ∧ Own w' w.heap.size v (tB l (f + 1) p) ∧ Below w.heap.size w w' := by
    obtain ⟨TB, hTB⟩ : ∃ TB, tB l (f + 1) p = TB := ⟨_, rfl⟩
    rw [hTB] at hl ⊢
    have HTE : Hid (uvF 9 (kS l p l.length).length ++ (kS l p l.length).flatMap (kB l f p) = TB) := hid (by rw [← hTB, tB_eq])
    have HIv := hid hI
    have HL := hid hL
    obtain ⟨d, hd⟩ : ∃ d, p.length = d := ⟨_, rfl⟩
    have HD := hid hd
    have HIH : Hid (∀ (s : ByteArray), 1 ≤ f → ∀ (i m c : Nat) (a : Option Addr) (w : World), m ≤ c → c ≤ 9223372036854775807 → Iv l (p ++ [s]) i (i + m) → (0 < m → ∃ b off, a = some ⟨b, off, none⟩ ∧ LAt w b off l i m) → (tB l f (p ++ [s])).length ≤ 90000000 →
      Calls Tryz.prog 46 #[.slice a m c, .int .i64 ((d : Int) + 1)] w fun e w' => ∃ v, e = .returned v ∧ Own w' w.heap.size v (tB l f (p ++ [s])) ∧ Below w.heap.size w w') := hid (fun s hf i m c a w h1 h2 h3 h4 h5 => by
        have := ih s hf i m c a w h1 h2 h3 h4 h5
        rw [show (((p ++ [s]).length : Nat) : Int) = (d : Int) + 1 by simp; omega] at this
        exact this)
    rw [hd] at hpf ⊢
    have hl0 : m ≤ 1000 := by have := hI.2; have := hbd.len; omega
    clear hTB hI hL hd ih
    go_enter Tryz.func46, Tryz.ntmps46
    go_wp2_with fail
    go_loopw [0, 5, 6] (fun lv cv bd wr => ∃ (J M c' : Nat) (a' : Option Addr), Hid (i ≤ J ∧ J + M = i + m) ∧ lv = .slice a' M c' ∧ cv = .int .i64 ((kS l p J).length : Nat) ∧ Hid (Lp l p w J M a' c') ∧ Hid (Bd w wr bd ((kS l p J).flatMap (kB l f p)))) (fun lv _ _ _ => sLen lv)
    case atStart =>
      have e := HIv.out.start i (Nat.le_refl _)
      refine ⟨i, m, c, a, hid ⟨Nat.le_refl _, rfl⟩, rfl, by rw [e]; rfl, hid ⟨hmc, hcm, HL.out, fun _ y _ => by rw [e]; simp⟩, hid ?_⟩
      rw [e]
      exact Bd.made w
    case round =>
      obtain ⟨J, M, c', a', HJ, rfl, rfl, HLp, HBd⟩ := hrel
      clear HL
      by_cases hlt : 0 < M
      · obtain ⟨b, o, rfl, hLA⟩ := HLp.out.a1 hlt
        have HLA := hid hLA
        have hM : M ≤ 1000 := by have := HJ.out; omega
        have HEL : Hid (i + m ≤ l.length ∧ l.length ≤ 1000) := hid ⟨HIv.out.2.2, hbd.len⟩
        have HP : Hid (∀ t, t < M → d < (gL l (J + t)).p.length ∧ (gL l (J + t)).p.length ≤ 8) := hid (fun t ht => by
          have hJ := HJ.out; have he := HEL.out
          have h1 := nx_ne.1 ((HIv.out.1 (J + t) (by omega)).2 (by omega))
          rw [HD.out] at h1
          exact ⟨h1.2, (hlv (J + t) (by omega)).1.1.2.1⟩)
        have hp0 := HP.out 0 hlt
        have HLf : Hid (LfOk1 (gL l J)) := hid ((hlv J (by have := HJ.out; have := HEL.out; omega)).1)
        obtain ⟨qa, qc, h0, hs, h1, h2, h3, h4⟩ := hLA.2 0 hlt
        simp only [Nat.add_zero, Nat.zero_mul] at h0 hs h1 h2 h3 h4 hp0
        rcases hs with hs | ⟨kb, ko, rfl, hkb, hkc⟩
        · omega
        have h5 := hkc d hp0.1
        have hb0 := hLA.1
        have HFR := hid (HLp.out.fr hlt)
        have HNX : Hid (nx p (gL l J) = some (onWay (gL l J).p (kd (gL l J).fl) d)) := hid (by
          have hJ := HJ.out; have he := HEL.out
          have h1 := nx_ne.1 ((HIv.out.1 J (by omega)).2 (by omega))
          rw [nx_some]; exact ⟨h1, by rw [HD.out]⟩)
        have hss : (gS (gL l J).p d).size ≤ 40 := (HLf.out.1.2.2 d hp0.1).2
        have HGC := hid (l4GroupC l b o J M c' d wr (by omega) (by omega) (by omega) (fun t ht => by have := HP.out t ht; omega) (hLA.below HBd.out.b))
        have HYE : Hid (onWay (gL l J).p (kd (gL l J).fl) d = (gS (gL l J).p d, kAt d (gL l J).p.length (gL l J).fl)) := hid rfl
        have HY3 : Hid (kAt d (gL l J).p.length (gL l J).fl = 1 ∨ kAt d (gL l J).p.length (gL l J).fl = 2 ∨ (kAt d (gL l J).p.length (gL l J).fl = 3 ∧ 1 ≤ f)) := hid (by
          unfold kAt
          split
          · exact .inr (.inr ⟨rfl, by omega⟩)
          · rcases kd_or (gL l J).fl with h | h
            · exact .inl h
            · exact .inr (.inl h))
        have HKS : Hid ((kS l p J).length ≤ 1000 ∧ ((kS l p J).flatMap (kB l f p)).length ≤ 90000000) := hid ⟨by have := kS_len l p J; have hJ := HJ.out; have he := HEL.out; omega, by
          have h1 := flat_pre (kB l f p) (kS_pre l p J l.length (by have hJ := HJ.out; have he := HEL.out; omega))
          have h2 : TB.length ≤ 90000000 := hl
          rw [← HTE.out, List.length_append] at h2
          omega⟩
        have HGR : Hid (∀ g, 1 ≤ g → g ≤ M → (∀ t, t < g → onWay (gL l (J + t)).p (kd (gL l (J + t)).fl) d = onWay (gL l J).p (kd (gL l J).fl) d) → (g < M → onWay (gL l (J + g)).p (kd (gL l (J + g)).fl) d ≠ onWay (gL l J).p (kd (gL l J).fl) d) →
            kS l p (J + g) = kS l p J ++ [onWay (gL l J).p (kd (gL l J).fl) d] ∧ dsK l p (onWay (gL l J).p (kd (gL l J).fl) d) l.length = ((List.range g).map fun t => gL l (J + t)) ∧ (∀ s, onWay (gL l J).p (kd (gL l J).fl) d = (s, 3) → Iv l (p ++ [s]) J (J + g)) ∧ (g < M → ∀ z, nx p (gL l (J + g)) = some z → z ∉ kS l p (J + g)) ∧ ((kS l p (J + g)).flatMap (kB l f p)).length ≤ 90000000) := hid (fun g g1 g2 g3 g4 => by
          have hJ := HJ.out; have he := HEL.out
          have hdd := HD.out
          obtain ⟨r1, r2, r3, r4⟩ := grp_all hlv HIv.out hJ.1 (HFR.out _ HNX.out) g1 (by omega) (by rw [hdd]) (by rw [hdd]; exact g3) (by rw [hdd]; exact fun h => g4 (by omega))
          refine ⟨r1, r2, r3, fun h z hz => r4 z hz (by omega), ?_⟩
          have h1 := flat_pre (kB l f p) (kS_pre l p (J + g) l.length (by omega))
          have h2 : TB.length ≤ 90000000 := hl
          rw [← HTE.out, List.length_append] at h2
          omega)
        have HLX : Hid (∀ t, t < M → ∃ r q : Nat, ∃ v, r ≤ 7 ∧ q ≤ 1000000000 ∧ v.size ≤ 200 ∧ (∀ Y : Int, lfB Y (gL l (J + t)) = uvF 9 r ++ (uvF 9 q ++ if Y = 1 then textInts v else [])) ∧ ∀ w', Below w.heap.size w w' → w'.cell? ⟨b, o + t * 5 + 2, none⟩ = some (.int .i64 (r : Int)) ∧ w'.cell? ⟨b, o + t * 5 + 3, none⟩ = some (.int .i64 (q : Int)) ∧ w'.cell? ⟨b, o + t * 5 + 4, none⟩ = some (.string v)) := hid (fun t ht => by
          have hJ := HJ.out; have he := HEL.out
          have hr := hbd.rep (J + t) (by omega)
          have hq := hbd.seq (J + t) (by omega)
          have hv := hbd.val (J + t) (by omega)
          refine ⟨(gL l (J + t)).r.toNat, (gL l (J + t)).q.toNat, (gL l (J + t)).v, by omega, by omega, hv, fun Y => rfl, fun w' hb' => ?_⟩
          obtain ⟨_, _, _, _, _, k2, k3, k4⟩ := (HLA.out.below hb').2 t ht
          refine ⟨?_, ?_, k4⟩
          · rw [k2]; congr 2; omega
          · rw [k3]; congr 2; omega)
        obtain ⟨x, hx⟩ : ∃ x, gL l J = x := ⟨_, rfl⟩
        rw [hx] at h0 h1 h2 h3 h4 h5 hp0 hss HYE HY3 HNX HGR HGC
        clear hx
        obtain ⟨xp, fl, xr, xq, xv⟩ := x
        dsimp only at h0 h1 h2 h3 h4 h5 hp0 hss HYE HY3 HNX HGR HGC
        rw [HYE.out] at HNX HGR HGC
        obtain ⟨s, hs'⟩ : ∃ s, gS xp d = s := ⟨_, rfl⟩
        obtain ⟨pn, hpn⟩ : ∃ pn, xp.length = pn := ⟨_, rfl⟩
        obtain ⟨Y, hY⟩ : ∃ Y, kAt d pn fl = Y := ⟨_, rfl⟩
        rw [hs', hpn, hY] at HNX HGR HGC
        rw [hpn, hY] at HY3
        rw [hs'] at hss h5
        rw [hpn] at h0 hp0
        have HYY := hid hY
        clear hs' hpn hY HYE hkc hLA
        have HC : Hid (∀ w', Below w.heap.size w w' → w'.cell? ⟨b, o, none⟩ = some (.slice (some ⟨kb, ko, none⟩) pn qc) ∧ w'.cell? ⟨b, o + 1, none⟩ = some (.bool fl) ∧ w'.cell? ⟨b, o + 2, none⟩ = some (.int .i64 xr) ∧ w'.cell? ⟨b, o + 3, none⟩ = some (.int .i64 xq) ∧ w'.cell? ⟨b, o + 4, none⟩ = some (.string xv) ∧ w'.cell? ⟨kb, ko + d, none⟩ = some (.string s)) := hid (fun w' hB => ⟨(hB.cell (p := ⟨b, _, none⟩) hb0).trans h0, (hB.cell (p := ⟨b, _, none⟩) hb0).trans h1, (hB.cell (p := ⟨b, _, none⟩) hb0).trans h2, (hB.cell (p := ⟨b, _, none⟩) hb0).trans h3, (hB.cell (p := ⟨b, _, none⟩) hb0).trans h4, (hB.cell (p := ⟨kb, _, none⟩) hkb).trans h5⟩)
        clear h0 h1 h2 h3 h4 h5 hb0 hkb
        obtain ⟨cn, hcn⟩ : ∃ cn, (kS l p J).length = cn := ⟨_, rfl⟩
        obtain ⟨zs, hzs⟩ : ∃ zs, (kS l p J).flatMap (kB l f p) = zs := ⟨_, rfl⟩
        rw [hcn, hzs] at HKS
        rw [hzs] at HBd
        have HCN := hid hcn
        have HZS := hid hzs
        have hcn2 := HKS.out.1
        simp only [hcn]
        have hc1 : M ≤ c' := HLp.out.c1
        have hc2 : c' ≤ 9223372036854775807 := HLp.out.c2
        clear hcn hzs HLp
        go_wp2_with fail
        refine HGC.out.mono ?_
        rintro e w1 ⟨⟨g, rfl, g1, g2, g3, g4⟩, b1⟩
        have HG := hid (HGR.out g g1 g2 g3 g4)
        have HBd1 := hid (HBd.out.keep b1)
        obtain ⟨q0, q1, q2, q3, q4, q5⟩ := HC.out w1 HBd1.out.b
        clear HGR g3 g4 HBd HGC b1
        go_wp2_with fail
        refine (l4KindC (some ⟨kb, ko, none⟩) pn qc fl xr xq xv d w1 (by omega) (by omega)).mono ?_
        rintro e w2 ⟨rfl, b2⟩
        rw [HYY.out]
        have HBd2 := hid (HBd1.out.keep b2)
        clear q0 q1 q2 q3 q4 q5 HBd1 b2
        obtain ⟨q0, q1, q2, q3, q4, q5⟩ := HC.out w2 HBd2.out.b
        go_wp2_with fail
        refine (specText s w2 (by omega)).mono ?_
        rintro e w3 ⟨v3, rfl, o3, b3, z3⟩
        have hts := textInts_len s
        obtain ⟨v4, w4, happ, bd4⟩ := HBd2.out.app b3 o3 (by unfold textInts; have := (uvF_len 9 s.size).2; rw [List.length_append]; omega) (by have := HKS.out.2; omega)
        have HBd4 := hid bd4
        clear q0 q1 q2 q3 q4 q5 HBd2 b3 o3 z3 bd4
        have HL4 : Hid ((zs ++ textInts s).length ≤ 90000050) := hid (by have := HKS.out.2; rw [List.length_append]; omega)
        rcases HY3.out with rfl | rfl | ⟨rfl, hf⟩
        · have HKB : Hid (kB l f p (s, 1) = textInts s ++ ([1] ++ (uvF 9 g ++ (List.range g).flatMap fun t => lfB 1 (gL l (J + t))))) := hid (by unfold kB; rw [if_neg (show ¬ (1 : Int) = 3 by decide), HG.out.2.1]; unfold mB; simp [List.flatMap_map])
          obtain ⟨v5, w5, happ5, bd5⟩ := HBd4.out.byte 1 (by have := HL4.out; omega)
          have HBd5 := hid bd5
          have HL5 : Hid ((zs ++ textInts s ++ [1]).length ≤ 90000051) := hid (by have := HL4.out; rw [List.length_append]; simp; simpa using this)
          clear bd5 HBd4 hts
          go_wp2_with (at_builtin; first | (refine wpList_app2 rfl _ _ _ _ rfl happ (by rfl) (by rfl) rfl ?_; clear happ) | (refine wpList_app2 rfl _ _ _ _ rfl happ5 (by rfl) (by rfl) rfl ?_; clear happ5))
          refine (specPut1 g w5 (by omega)).mono ?_
          rintro e w6 ⟨v6, rfl, o6, b6, z6⟩
          have hug := uvF_len 9 g
          obtain ⟨v7, w7, happ7, bd7⟩ := HBd5.out.app b6 o6 hug.2 (by have := HL5.out; omega)
          have HBd7 := hid bd7
          obtain ⟨ys, hys⟩ : ∃ ys, zs ++ textInts s ++ [1] ++ uvF 9 g = ys := ⟨_, rfl⟩
          have HYS := hid hys
          have HL7 : Hid (ys.length ≤ 90000070) := hid (by rw [← hys, List.length_append]; have := HL5.out; omega)
          rw [hys] at HBd7
          clear hys bd7 o6 b6 z6 hug HBd5
          go_wp2_with (at_builtin; refine wpList_app2 rfl _ _ _ _ rfl happ7 (by rfl) (by rfl) rfl ?_; clear happ7)
          go_loopw [6, 9] (fun bd iv wr => ∃ t : Nat, t ≤ g ∧ iv = .int .i64 t ∧ Hid (Bd w wr bd (ys ++ (List.range t).flatMap fun t => lfB 1 (gL l (J + t))))) (fun _ iv _ => g - (intOf iv).toNat)
          case atStart => exact ⟨0, Nat.zero_le _, rfl, hid (by simpa using HBd7.out)⟩
          case round =>
            obtain ⟨t, ht, rfl, HBt⟩ := hrel
            clear HBd7
            by_cases htg : t < g
            · obtain ⟨r, q, v, hr, hq, hv, hlf, hkk⟩ := HLX.out t (by omega)
              have HK := hid hkk
              obtain ⟨k2, k3, k4⟩ := hkk _ HBt.out.b
              clear hkk
              have HTK : Hid (ys ++ ((List.range (t + 1)).flatMap fun t => lfB 1 (gL l (J + t))) = ys ++ ((List.range t).flatMap fun t => lfB 1 (gL l (J + t))) ++ (uvF 9 r ++ (uvF 9 q ++ textInts v))) := hid (by rw [List.range_succ, List.flatMap_append]; simp [hlf])
              have HLt : Hid ((ys ++ (List.range t).flatMap fun t => lfB 1 (gL l (J + t))).length ≤ 90000070 + 230 * 1000) := hid (by
                have h2 := flat_len (fun t => lfB 1 (gL l (J + t))) (fun _ => 1) 230 (List.range t) (fun z hz => by
                  have hz' := List.mem_range.1 hz
                  obtain ⟨r, q, v, hr, hq, hv, hlf, _⟩ := HLX.out z (by omega)
                  have a1 := (uvF_len 9 r).1
                  have a2 := (uvF_len 9 q).1
                  have a3 := textInts_len v
                  rw [hlf]
                  simp only [List.length_append]
                  split
                  · omega
                  · simp; omega)
                have h3 : ∀ ls : List Nat, (ls.map fun _ => 1).sum = ls.length := fun ls => by
                  induction ls with
                  | nil => rfl
                  | cons a r ih => simp only [List.map_cons, List.sum_cons, ih, List.length_cons]; omega
                rw [h3, List.length_range] at h2
                have := HL7.out
                rw [List.length_append]
                omega)
              obtain ⟨us, hus⟩ : ∃ us, ys ++ ((List.range t).flatMap fun t => lfB 1 (gL l (J + t))) = us := ⟨_, rfl⟩
              rw [hus] at HBt HTK HLt
              clear hus hlf
              have hur := uvF_len 9 r
              have huq := uvF_len 9 q
              go_wp2_with fail
              refine (specPut1 r _ (by omega)).mono ?_
              rintro e y1 ⟨u1, rfl, oo1, bb1, zz1⟩
              obtain ⟨u2, y2, ha2, bu2⟩ := HBt.out.app bb1 oo1 hur.2 (by have := HLt.out; omega)
              have HB2 := hid bu2
              clear bu2 bb1 oo1 zz1 HBt k2 k3 k4
              obtain ⟨k2, k3, k4⟩ := HK.out _ HB2.out.b
              go_wp2_with (at_builtin; refine wpList_app2 rfl _ _ _ _ rfl ha2 (by rfl) (by rfl) rfl ?_; clear ha2)
              refine (specPut1 q _ (by omega)).mono ?_
              rintro e y3 ⟨u3, rfl, oo3, bb3, zz3⟩
              obtain ⟨u4, y4, ha4, bu4⟩ := HB2.out.app bb3 oo3 huq.2 (by have := HLt.out; rw [List.length_append]; omega)
              have HB4 := hid bu4
              clear bu4 bb3 oo3 zz3 HB2 k2 k3 k4
              obtain ⟨k2, k3, k4⟩ := HK.out _ HB4.out.b
              go_wp2_with (at_builtin; refine wpList_app2 rfl _ _ _ _ rfl ha4 (by rfl) (by rfl) rfl ?_; clear ha4)
              refine (specText v _ (by omega)).mono ?_
              rintro e y5 ⟨u5, rfl, oo5, bb5, zz5⟩
              have htv := textInts_len v
              obtain ⟨u6, y6, ha6, bu6⟩ := HB4.out.app bb5 oo5 (by unfold textInts; have := (uvF_len 9 v.size).2; rw [List.length_append]; omega) (by have := HLt.out; rw [List.length_append, List.length_append]; omega)
              have HB6 := hid bu6
              clear bu6 bb5 oo5 zz5 HB4 k2 k3 k4
              go_wp2_with (at_builtin; refine wpList_app2 rfl _ _ _ _ rfl ha6 (by rfl) (by rfl) rfl ?_; clear ha6)
              go_roundw
              case rel => exact ⟨t + 1, htg, by go_num, hid (by rw [HTK.out]; simpa using HB6.out)⟩
              case measure => simp [intOf]; omega
            · obtain rfl : g = t := by omega
              have HFZ : Hid (Bd w wr u6 ((kS l p (J + g)).flatMap (kB l f p))) := hid (by rw [HG.out.1, List.flatMap_append, HZS.out]; simp only [List.flatMap_cons, List.flatMap_nil, List.append_nil]; rw [HKB.out]; simpa [← HYS.out] using HBt.out)
              have HCN2 : Hid ((kS l p (J + g)).length = cn + 1) := hid (by rw [HG.out.1, List.length_append, HCN.out]; rfl)
              have HFR2 : Hid (0 < M - g → ∀ y, nx p (gL l (J + g)) = some y → y ∉ kS l p (J + g)) := hid (fun h => HG.out.2.2.2.1 (by omega))
              clear HBt HZS HCN HFR
              by_cases hgc : g < c'
              · go_wp2_with fail
                go_roundw
                case rel => exact ⟨J + g, M - g, c' - g, some ⟨b, o + g * 5, none⟩, hid (by have := HJ.out; omega), by first | rfl | rw [if_neg (by omega)], by rw [HCN2.out]; go_num, hid ⟨by omega, by omega, fun h => ⟨b, _, rfl, HLA.out.drop g2⟩, HFR2.out⟩, HFZ⟩
                case measure => simp [sLen]; omega
              · go_wp2_with fail
                go_roundw
                case rel => exact ⟨J + g, M - g, c' - g, some ⟨b, o, none⟩, hid (by have := HJ.out; omega), by first | rfl | rw [if_pos (by omega)], by rw [HCN2.out]; go_num, hid ⟨by omega, by omega, fun h => by omega, HFR2.out⟩, HFZ⟩
                case measure => simp [sLen]; omega
        · have HKB : Hid (kB l f p (s, 2) = textInts s ++ ([2] ++ (uvF 9 g ++ (List.range g).flatMap fun t => lfB 2 (gL l (J + t))))) := hid (by unfold kB; rw [if_neg (show ¬ (2 : Int) = 3 by decide), HG.out.2.1]; unfold mB; simp [List.flatMap_map])
          obtain ⟨v5, w5, happ5, bd5⟩ := HBd4.out.byte 2 (by have := HL4.out; omega)
          have HBd5 := hid bd5
          have HL5 : Hid ((zs ++ textInts s ++ [2]).length ≤ 90000051) := hid (by have := HL4.out; rw [List.length_append]; simp; simpa using this)
          clear bd5 HBd4 hts
          go_wp2_with (at_builtin; first | (refine wpList_app2 rfl _ _ _ _ rfl happ (by rfl) (by rfl) rfl ?_; clear happ) | (refine wpList_app2 rfl _ _ _ _ rfl happ5 (by rfl) (by rfl) rfl ?_; clear happ5))
          refine (specPut1 g w5 (by omega)).mono ?_
          rintro e w6 ⟨v6, rfl, o6, b6, z6⟩
          have hug := uvF_len 9 g
          obtain ⟨v7, w7, happ7, bd7⟩ := HBd5.out.app b6 o6 hug.2 (by have := HL5.out; omega)
          have HBd7 := hid bd7
          obtain ⟨ys, hys⟩ : ∃ ys, zs ++ textInts s ++ [2] ++ uvF 9 g = ys := ⟨_, rfl⟩
          have HYS := hid hys
          have HL7 : Hid (ys.length ≤ 90000070) := hid (by rw [← hys, List.length_append]; have := HL5.out; omega)
          rw [hys] at HBd7
          clear hys bd7 o6 b6 z6 hug HBd5
          go_wp2_with (at_builtin; refine wpList_app2 rfl _ _ _ _ rfl happ7 (by rfl) (by rfl) rfl ?_; clear happ7)
          go_loopw [6, 9] (fun bd iv wr => ∃ t : Nat, t ≤ g ∧ iv = .int .i64 t ∧ Hid (Bd w wr bd (ys ++ (List.range t).flatMap fun t => lfB 2 (gL l (J + t))))) (fun _ iv _ => g - (intOf iv).toNat)
          case atStart => exact ⟨0, Nat.zero_le _, rfl, hid (by simpa using HBd7.out)⟩
          case round =>
            obtain ⟨t, ht, rfl, HBt⟩ := hrel
            clear HBd7
            by_cases htg : t < g
            · obtain ⟨r, q, v, hr, hq, hv, hlf, hkk⟩ := HLX.out t (by omega)
              have HK := hid hkk
              obtain ⟨k2, k3, k4⟩ := hkk _ HBt.out.b
              clear hkk
              have HTK : Hid (ys ++ ((List.range (t + 1)).flatMap fun t => lfB 2 (gL l (J + t))) = ys ++ ((List.range t).flatMap fun t => lfB 2 (gL l (J + t))) ++ (uvF 9 r ++ uvF 9 q)) := hid (by rw [List.range_succ, List.flatMap_append]; simp [hlf])
              have HLt : Hid ((ys ++ (List.range t).flatMap fun t => lfB 2 (gL l (J + t))).length ≤ 90000070 + 230 * 1000) := hid (by
                have h2 := flat_len (fun t => lfB 2 (gL l (J + t))) (fun _ => 1) 230 (List.range t) (fun z hz => by
                  have hz' := List.mem_range.1 hz
                  obtain ⟨r, q, v, hr, hq, hv, hlf, _⟩ := HLX.out z (by omega)
                  have a1 := (uvF_len 9 r).1
                  have a2 := (uvF_len 9 q).1
                  have a3 := textInts_len v
                  rw [hlf]
                  simp only [List.length_append]
                  split
                  · omega
                  · simp; omega)
                have h3 : ∀ ls : List Nat, (ls.map fun _ => 1).sum = ls.length := fun ls => by
                  induction ls with
                  | nil => rfl
                  | cons a r ih => simp only [List.map_cons, List.sum_cons, ih, List.length_cons]; omega
                rw [h3, List.length_range] at h2
                have := HL7.out
                rw [List.length_append]
                omega)
              obtain ⟨us, hus⟩ : ∃ us, ys ++ ((List.range t).flatMap fun t => lfB 2 (gL l (J + t))) = us := ⟨_, rfl⟩
              rw [hus] at HBt HTK HLt
              clear hus hlf
              have hur := uvF_len 9 r
              have huq := uvF_len 9 q
              go_wp2_with fail
              refine (specPut1 r _ (by omega)).mono ?_
              rintro e y1 ⟨u1, rfl, oo1, bb1, zz1⟩
              obtain ⟨u2, y2, ha2, bu2⟩ := HBt.out.app bb1 oo1 hur.2 (by have := HLt.out; omega)
              have HB2 := hid bu2
              clear bu2 bb1 oo1 zz1 HBt k2 k3 k4
              obtain ⟨k2, k3, k4⟩ := HK.out _ HB2.out.b
              go_wp2_with (at_builtin; refine wpList_app2 rfl _ _ _ _ rfl ha2 (by rfl) (by rfl) rfl ?_; clear ha2)
              refine (specPut1 q _ (by omega)).mono ?_
              rintro e y3 ⟨u3, rfl, oo3, bb3, zz3⟩
              obtain ⟨u4, y4, ha4, bu4⟩ := HB2.out.app bb3 oo3 huq.2 (by have := HLt.out; rw [List.length_append]; omega)
              have HB4 := hid bu4
              clear bu4 bb3 oo3 zz3 HB2 k2 k3 k4
              obtain ⟨k2, k3, k4⟩ := HK.out _ HB4.out.b
              go_wp2_with (at_builtin; refine wpList_app2 rfl _ _ _ _ rfl ha4 (by rfl) (by rfl) rfl ?_; clear ha4)
              go_roundw
              case rel => exact ⟨t + 1, htg, by go_num, hid (by rw [HTK.out]; simpa using HB4.out)⟩
              case measure => simp [intOf]; omega
            · obtain rfl : g = t := by omega
              have HFZ : Hid (Bd w wr u6 ((kS l p (J + g)).flatMap (kB l f p))) := hid (by rw [HG.out.1, List.flatMap_append, HZS.out]; simp only [List.flatMap_cons, List.flatMap_nil, List.append_nil]; rw [HKB.out]; simpa [← HYS.out] using HBt.out)
              have HCN2 : Hid ((kS l p (J + g)).length = cn + 1) := hid (by rw [HG.out.1, List.length_append, HCN.out]; rfl)
              have HFR2 : Hid (0 < M - g → ∀ y, nx p (gL l (J + g)) = some y → y ∉ kS l p (J + g)) := hid (fun h => HG.out.2.2.2.1 (by omega))
              clear HBt HZS HCN HFR
              by_cases hgc : g < c'
              · go_wp2_with fail
                go_roundw
                case rel => exact ⟨J + g, M - g, c' - g, some ⟨b, o + g * 5, none⟩, hid (by have := HJ.out; omega), by first | rfl | rw [if_neg (by omega)], by rw [HCN2.out]; go_num, hid ⟨by omega, by omega, fun h => ⟨b, _, rfl, HLA.out.drop g2⟩, HFR2.out⟩, HFZ⟩
                case measure => simp [sLen]; omega
              · go_wp2_with fail
                go_roundw
                case rel => exact ⟨J + g, M - g, c' - g, some ⟨b, o, none⟩, hid (by have := HJ.out; omega), by first | rfl | rw [if_pos (by omega)], by rw [HCN2.out]; go_num, hid ⟨by omega, by omega, fun h => by omega, HFR2.out⟩, HFZ⟩
                case measure => simp [sLen]; omega
        · have HKB : Hid (kB l f p (s, 3) = textInts s ++ ([3] ++ tB l f (p ++ [s]))) := hid (by unfold kB; rw [if_pos rfl])
          have HTL : Hid ((tB l f (p ++ [s])).length ≤ 90000000 ∧ 0 < (tB l f (p ++ [s])).length) := hid ⟨by
            have h1 := HG.out.2.2.2.2
            rw [HG.out.1, List.flatMap_append, List.length_append] at h1
            simp only [List.flatMap_cons, List.flatMap_nil, List.append_nil] at h1
            rw [HKB.out] at h1
            simp only [List.length_append] at h1
            omega, by
            obtain ⟨f', rfl⟩ : ∃ f', f = f' + 1 := ⟨f - 1, by omega⟩
            exact tB_pos _ _ _⟩
          obtain ⟨v5, w5, happ5, bd5⟩ := HBd4.out.byte 3 (by have := HL4.out; omega)
          have HBd5 := hid bd5
          have HL5 : Hid ((zs ++ textInts s ++ [3]).length ≤ 90000051) := hid (by have := HL4.out; rw [List.length_append]; simp; simpa using this)
          clear bd5 HBd4 hts
          go_wp2_with (at_builtin; first | (refine wpList_app2 rfl _ _ _ _ rfl happ (by rfl) (by rfl) rfl ?_; clear happ) | (refine wpList_app2 rfl _ _ _ _ rfl happ5 (by rfl) (by rfl) rfl ?_; clear happ5))
          refine (HIH.out s hf J g c' (some ⟨b, o, none⟩) w5 (by omega) hc2 (HG.out.2.2.1 s rfl) (fun _ => ⟨b, o, rfl, (HLA.out.take g2).below HBd5.out.b⟩) HTL.out.1).mono ?_
          rintro e w6 ⟨v6, rfl, o6, b6⟩
          obtain ⟨v7, w7, happ7, bd7⟩ := HBd5.out.app b6 o6 HTL.out.2 (by have := HL5.out; have := HTL.out.1; omega)
          have HBd7 := hid bd7
          clear bd7 o6 b6 HBd5
          have HFZ : Hid (Bd w w7 v7 ((kS l p (J + g)).flatMap (kB l f p))) := hid (by rw [HG.out.1, List.flatMap_append, HZS.out]; simp only [List.flatMap_cons, List.flatMap_nil, List.append_nil]; rw [HKB.out]; simpa [List.append_assoc] using HBd7.out)
          have HCN2 : Hid ((kS l p (J + g)).length = cn + 1) := hid (by rw [HG.out.1, List.length_append, HCN.out]; rfl)
          have HFR2 : Hid (0 < M - g → ∀ y, nx p (gL l (J + g)) = some y → y ∉ kS l p (J + g)) := hid (fun h => HG.out.2.2.2.1 (by omega))
          clear HBd7 HZS HCN HFR
          by_cases hgc : g < c'
          · go_wp2_with (at_builtin; refine wpList_app2 rfl _ _ _ _ rfl happ7 (by rfl) (by rfl) rfl ?_; clear happ7)
            go_roundw
            case rel => exact ⟨J + g, M - g, c' - g, some ⟨b, o + g * 5, none⟩, hid (by have := HJ.out; omega), by first | rfl | rw [if_neg (by omega)], by rw [HCN2.out]; go_num, hid ⟨by omega, by omega, fun h => ⟨b, _, rfl, HLA.out.drop g2⟩, HFR2.out⟩, HFZ⟩
            case measure => simp [sLen]; omega
          · go_wp2_with (at_builtin; refine wpList_app2 rfl _ _ _ _ rfl happ7 (by rfl) (by rfl) rfl ?_; clear happ7)
            go_roundw
            case rel => exact ⟨J + g, M - g, c' - g, some ⟨b, o, none⟩, hid (by have := HJ.out; omega), by first | rfl | rw [if_pos (by omega)], by rw [HCN2.out]; go_num, hid ⟨by omega, by omega, fun h => by omega, HFR2.out⟩, HFZ⟩
            case measure => simp [sLen]; omega
      · obtain rfl : M = 0 := by omega
        have HST : Hid (kS l p J = kS l p l.length) := hid (by have h1 := HJ.out; have h2 := HIv.out; rw [h2.stop l.length h2.2.2 (Nat.le_refl _)]; congr 1; omega)
        have HKS : Hid ((kS l p J).length ≤ 1000 ∧ uvF 9 (kS l p J).length ++ (kS l p J).flatMap (kB l f p) = TB) := hid ⟨by have := kS_len l p J; have h1 := HJ.out; have h2 := HIv.out.2.2; have := hbd.len; omega, by rw [HST.out]; exact HTE.out⟩
        obtain ⟨cn, hcn⟩ : ∃ cn, (kS l p J).length = cn := ⟨_, rfl⟩
        obtain ⟨zs, hzs⟩ : ∃ zs, (kS l p J).flatMap (kB l f p) = zs := ⟨_, rfl⟩
        rw [hcn, hzs] at HKS
        rw [hzs] at HBd
        have hcn2 := HKS.out.1
        simp only [hcn]
        clear hcn hzs HLp HST HJ
        go_wp2_with fail
        refine (specPut1 cn _ (by omega)).mono ?_
        rintro e w1 ⟨v1, rfl, o1, b1, z1⟩
        obtain ⟨v2, w2, happ, o2, b2⟩ := HBd.out.front b1 o1 (by have h1 := HKS.out.2; have h2 : TB.length ≤ 90000000 := hl; rw [← h1, List.length_append] at h2; omega)
        rw [HKS.out.2] at o2
        have HO := hid o2
        have HB := hid b2
        clear o2 b2 b1 o1 z1 HBd
        go_wp2_with (at_builtin; refine wpList_app2 rfl _ _ _ _ rfl happ (by rfl) (by rfl) rfl ?_; clear happ)
        go_ret
        exact ⟨v2, rfl, HO.out, HB.out⟩
theorem l4TreeC {R F T : Nat → Int} {n : Nat} (l : List Lf) (hlv : LvOk R F T n l l.length) (hbd : LvB l) : ∀ (f : Nat) (p : List ByteArray), p.length + f = 8 → 1 ≤ f → ∀ (i m c : Nat) (a : Option Addr) (w : World), m ≤ c → c ≤ 9223372036854775807 → Iv l p i (i + m) → (0 < m → ∃ b off, a = some ⟨b, off, none⟩ ∧ LAt w b off l i m) → (tB l f p).length ≤ 90000000 →
    Calls Tryz.prog 46 #[.slice a m c, .int .i64 (p.length : Int)] w fun e w' => ∃ v, e = .returned v ∧ Own w' w.heap.size v (tB l f p) ∧ Below w.heap.size w w' := by
  intro f
  induction f with
  | zero => intro p _ h1; omega
  | succ f IH => exact fun p hpf _ i m c a w h1 h2 h3 h4 h5 => l4TreeStep l hlv hbd f p hpf (fun s hf => IH (p ++ [s]) (by rw [List.length_append]; simp; omega) hf) i m c a w h1 h2 h3 h4 h5
end Go.Proofs.YtakmpmhjcngbbaaGreatDoor
namespace Go.Proofs.YtakmpmhjcngbbaaGreatDoor
open Go.ChangeShapes Go.WideShapes Go.ChangeAt Go.RowKit Go.Maps Go.Sort
theorem wp_appB {w : World} {o : Oper} {a : Act} {K : Act → World → Prop} {Q : Exit → Act → World → Prop} (s x : Operand)
    (ho : o.op = .call { callee := .builtin .append, args := #[s, x], argTypes := #[22, 22] })
    (B B' : Nat) (b v : Value) (zs ys : List Int) (hs : a.eval s = b) (hown : Own w B b zs) (hx : a.eval x = v) (hv : Own w B' v ys) (hvn : v.ownBlock ≠ none) (hbn : b.ownBlock ≠ none) (hl : zs.length + ys.length ≤ 1000000000) (hB : B ≤ w.heap.size)
    (h : ∀ v' w', Own w' B v' (zs ++ ys) → Gr w w' b v' → v'.ownBlock ≠ none → K (a.put o.dst v') w') : o.wp Tryz.prog a w K Q := by
  obtain ⟨i0, hi, hz0, hz1, hz2⟩ := info_parts Tryz.infoByte
  have hv' := hv
  obtain ⟨hv1, hv2⟩ := hv
  rcases hv2 with ⟨rfl, _⟩ | ⟨g, cap, cur, rfl, hbg, hg, hn, hm, r⟩
  · exact absurd rfl hvn
  refine wp_app_at s x 22 ho B 5 i0 (.int .u8 0) 1 1 Tryz.underlying22 hi hz0 hz1 hz2 rfl (by decide) b zs.length _ hs hown ⟨g, 0, none⟩ ys.length cap (ys.map (Value.int .u8)) hx (by simp) (World.ownsRow.cells hv' rfl) (ints_oneCell .u8 _) (by unfold maxLen; omega) (by omega) hB ?_
  intro v' w' h1 h2 h3
  refine h v' w' ?_ (Gr.app h2 h3) ?_
  · unfold Own; rw [List.length_append, List.map_append]; exact h1
  · rcases h3 with h3 | h3
    · rw [h3]; exact hbn
    · rw [h3]; simp
theorem wpList_appB {w : World} {ops : Array Oper} {rest : List Oper} {o : Oper} {a : Act} {Q : Exit → Act → World → Prop} (hgd : o.guard = none) (s x : Operand)
    (ho : o.op = .call { callee := .builtin .append, args := #[s, x], argTypes := #[22, 22] })
    (B B' : Nat) (b v : Value) (zs ys : List Int) (hs : a.eval s = b) (hown : Own w B b zs) (hx : a.eval x = v) (hv : Own w B' v ys) (hvn : v.ownBlock ≠ none) (hbn : b.ownBlock ≠ none) (hl : zs.length + ys.length ≤ 1000000000) (hB : B ≤ w.heap.size)
    (h : ∀ v' w', Own w' B v' (zs ++ ys) → Gr w w' b v' → v'.ownBlock ≠ none → wpList Tryz.prog ops Q rest (a.put o.dst v') w') : wpList Tryz.prog ops Q (o :: rest) a w :=
  wpList_plain hgd fun _ hK => wp_appB s x ho B B' b v zs ys hs hown hx hv hvn hbn hl hB fun v' w' h2 h3 h4 => hK _ _ (h v' w' h2 h3 h4)
theorem Own.some {w : World} {B : Nat} {v : Value} {zs : List Int} (h : Own w B v zs) (hz : 0 < zs.length) : v.ownBlock ≠ none := by
  obtain ⟨h1, h2⟩ := h
  rcases h2 with ⟨_, h2⟩ | ⟨g, cap, cur, rfl, _⟩
  · omega
  · simp [Value.ownBlock]
def bodyF (L : Int → List (Int × Int)) (k : Nat) : List Int := (KS L k).flatMap (repB L)
theorem putK_flat (L : Int → List (Int × Int)) (ks : List Int) : ∀ k, k ≤ ks.length → putK L ks k = (ks.take k).flatMap (repB L)
  | 0, _ => by simp [putK]
  | k + 1, h => by
    have e : ks.take (k + 1) = ks.take k ++ [ks.getD k 0] := by
      rw [List.take_add_one]; simp [List.getD, show k < ks.length by omega]
    rw [e, List.flatMap_append, ← putK_flat L ks k (by omega)]
    simp [putK]
theorem putB_eq (L : Int → List (Int × Int)) : putB L = uvF 9 (KS L 8).length ++ bodyF L 8 := by
  unfold putB bodyF; rw [putK_flat L _ _ (Nat.le_refl _), List.take_length]
theorem KS_yes {L : Int → List (Int × Int)} {k : Nat} (h : L (k : Int) ≠ []) : KS L (k + 1) = KS L k ++ [(k : Int)] := by
  have : (L (k : Int)).isEmpty = false := by cases e : L (k : Int) with | nil => exact absurd e h | cons _ _ => rfl
  simp [KS, this]
theorem KS_no {L : Int → List (Int × Int)} {k : Nat} (h : L (k : Int) = []) : KS L (k + 1) = KS L k := by simp [KS, h]
theorem bodyF_yes {L : Int → List (Int × Int)} {k : Nat} (h : L (k : Int) ≠ []) : bodyF L (k + 1) = bodyF L k ++ (uvF 9 k ++ (uvF 9 (L (k : Int)).length ++ spK (L (k : Int)) (L (k : Int)).length)) := by
  unfold bodyF; rw [KS_yes h, List.flatMap_append]; simp [repB, grpB]
theorem bodyF_no {L : Int → List (Int × Int)} {k : Nat} (h : L (k : Int) = []) : bodyF L (k + 1) = bodyF L k := by
  unfold bodyF; rw [KS_no h]
theorem bodyF_len {L : Int → List (Int × Int)} (hL : ∀ r, (L r).length ≤ 1000) : ∀ k, (bodyF L k).length ≤ 30000 * k
  | 0 => by simp [bodyF, KS]
  | k + 1 => by
    have := bodyF_len hL k
    by_cases h : L (k : Int) = []
    · rw [bodyF_no h]; omega
    · have h1 := (uvF_len 9 k).1
      have h2 := (uvF_len 9 (L (k : Int)).length).1
      have h3 := spK_len (L (k : Int)) (L (k : Int)).length
      have h4 := hL (k : Int)
      rw [bodyF_yes h]; simp only [List.length_append]; omega
def lastK (l : List (Int × Int)) (j : Nat) : Int := loK l j - 2
theorem run_at {w : World} {B n cap g : Nat} {r : Int} {l : List (Int × Int)} (h : w.ownsRow B 64 3 (.slice (some ⟨g, 0, none⟩) n cap) n (runCells r l)) (hl : l.length = n) :
    ∀ i, i < n → w.cell? ⟨g, i * 3 + 1, none⟩ = some (.int .i64 (sF l i)) ∧ w.cell? ⟨g, i * 3 + 2, none⟩ = some (.int .i64 (sT l i)) := by
  intro i hi
  have key : ∀ (l : List (Int × Int)) (i : Nat), i < l.length → (runCells r l)[i * 3 + 1]? = some (.int .i64 (l.getD i (0, 0)).1) ∧ (runCells r l)[i * 3 + 2]? = some (.int .i64 (l.getD i (0, 0)).2) := by
    intro l
    induction l with
    | nil => intro i hi; simp at hi
    | cons a l ih =>
      intro i hi
      cases i with
      | zero => simp [runCells]
      | succ i =>
        have := ih i (by simpa using hi)
        have e : runCells r (a :: l) = .int .i64 r :: .int .i64 a.1 :: .int .i64 a.2 :: runCells r l := by simp [runCells]
        rw [e, show (i + 1) * 3 + 1 = i * 3 + 1 + 1 + 1 + 1 from by omega, show (i + 1) * 3 + 2 = i * 3 + 2 + 1 + 1 + 1 from by omega]
        simpa using this
  rw [h.cellAt _ (by omega), h.cellAt _ (by omega)]
  exact key l i (by omega)
theorem specPut (a : Option Addr) (n c : Nat) (R F T : Nat → Int) (w : World) (hn : n ≤ 1048576) (h : RSeg w a n R F T) (hok : ctxB R F T n = true) :
    Calls Tryz.prog 45 #[.agg #[.slice a n c]] w fun e w' => ∃ v, e = .returned (.tuple #[v, .bool true]) ∧ Own w' w.heap.size v (putB (Lk R F T n)) ∧ Below w.heap.size w w' := by
  have hokT := ctxB_iff.1 hok
  have hn1 := hokT.2
  have B0 : Below w.heap.size w (w.alloc (.cells #[.slice a n c] 26)) := (Below.refl _ _).alloc (Nat.le_refl _) _
  obtain ⟨L, hLL⟩ : ∃ L, Lk R F T n = L := ⟨_, rfl⟩
  have HLen : Hid (∀ r, (L r).length ≤ 1000) := fun r => by rw [← hLL]; exact Nat.le_trans (Lk_len R F T n r) hn1
  have HSrt : Hid (∀ r, Srt (L r)) := fun r => by rw [← hLL]; exact (Lk_srt n hokT.1 r).1
  have HOF : Hid (∀ (rep : Int) (w : World), RSeg w a n R F T → Calls Tryz.prog 64 #[.agg #[.slice a n c], .int .i64 rep] w fun e w' => ∃ v, e = .returned v ∧ w'.ownsRow w.heap.size 64 3 v (L rep).length (runCells rep (L rep)) ∧ Below w.heap.size w w') := fun rep w h => by rw [← hLL]; exact specOf a n c R F T rep w hn h
  rw [hLL]
  clear hokT hLL
  go_enter Tryz.func45, Tryz.ntmps45
  go_wp2_with fail
  refine (specOk a n c R F T _ hn (h.below B0)).mono ?_
  rintro e w1 ⟨rfl, b1⟩
  rw [hok]
  have hbox : w1.cell? ⟨w.heap.size, 0, none⟩ = some (.slice a n c) := by rw [(bcell b1).1 _ _ (by simp)]; simp
  have z1 : w.heap.size + 1 ≤ w1.heap.size := by have := b1.size; simp at this; omega
  have HB1 := hid (keepS B0 b1)
  have HW := hid h
  clear b1 B0 hok h
  go_wp2_with fail
  go_loopw [4, 5, 6] (fun cv b' i wr => ∃ (k : Nat) (zs : List Int), k ≤ 8 ∧ i = .int .i64 k ∧ cv = .int .i64 ((KS L k).length : Nat) ∧ Hid (Own wr (w.heap.size + 1) b' zs) ∧ Hid (zs = bodyF L k) ∧ Hid (Below w.heap.size w wr) ∧ Hid (b'.ownBlock ≠ none) ∧ wr.cell? ⟨w.heap.size, 0, none⟩ = some (.slice a n c) ∧ w.heap.size + 1 ≤ wr.heap.size) (fun _ _ i _ => 8 - (intOf i).toNat)
  case atStart =>
    refine ⟨0, [], by omega, rfl, rfl, ?_, hid rfl, hid (HB1.out.alloc (by omega) _), hid (by simp [Value.ownBlock]), ?_, by simp; omega⟩
    · have := World.ownsRow_lit (base := w.heap.size + 1) (e := 5) (size := 1) w1 #[] 0 (by omega) (by unfold maxLen; omega) rfl
      exact hid (by simpa [Own] using this)
    · rw [Below.cell (B := w1.heap.size) ((Below.refl _ _).alloc (Nat.le_refl _) _) (show w.heap.size < w1.heap.size by omega)]; exact hbox
  case round =>
    obtain ⟨k, zs, hk, rfl, rfl, hown, hzs, hbel, hsome, hbx, hsz⟩ := hrel
    by_cases hlt : k < 8
    · have hkl := KS_len L k
      have hseg := HW.out.below hbel.out
      have HSG := hid hseg
      clear hseg
      go_wp2_with fail
      refine (HOF.out (k : Int) wr HSG.out).mono ?_
      rintro e w2 ⟨v2, rfl, hr2, hb2⟩
      obtain ⟨l, hl⟩ : ∃ l, L (k : Int) = l := ⟨_, rfl⟩
      have hll : l.length ≤ 1000 := by rw [← hl]; exact HLen.out _
      have HAT : Hid (∀ j, j < l.length → 1 ≤ loK l j ∧ loK l j ≤ sF l j ∧ sF l j ≤ sT l j ∧ sT l j ≤ 1000000000) := fun j hj => srt_at (by rw [← hl]; exact HSrt.out _) hj
      have HO2 : Hid (Own w2 (w.heap.size + 1) u5 zs) := hown.out.kept hb2 (fun k hk => (World.ownsRow.lt hown.out k hk).2)
      have HB2 : Hid (Below w.heap.size w w2) := hbel.out.trans (hb2.mono (by omega))
      have hbx2 : w2.cell? ⟨w.heap.size, 0, none⟩ = some (.slice a n c) := by rw [Below.cell hb2 (show w.heap.size < wr.heap.size by omega)]; exact hbx
      have z2 := hb2.size
      have hzl : zs.length ≤ 30000 * k := by rw [hzs.out]; exact bodyF_len HLen.out k
      have HU5 : Hid (∀ g, u5.ownBlock = some g → g < wr.heap.size) := fun g hg => (World.ownsRow.lt hown.out g hg).2
      rw [hl] at hr2
      clear hb2 hown hbel HSG
      by_cases hnil : l = []
      · subst hnil
        have HKS := hid (KS_no hl)
        have HBF := hid (bodyF_no hl)
        clear hl
        rcases hr2.2 with ⟨rfl, _⟩ | ⟨g, cap, cur, rfl, _⟩
        · clear hr2
          go_wp2_with fail
          go_roundw
          case rel => exact ⟨k + 1, zs, hlt, by go_num, by rw [HKS.out], HO2, hid (by rw [HBF.out, hzs.out]), HB2, hsome, hbx2, by omega⟩
          case measure => simp [intOf]; omega
        · clear hr2
          go_wp2_with fail
          go_roundw
          case rel => exact ⟨k + 1, zs, hlt, by go_num, by rw [HKS.out], HO2, hid (by rw [HBF.out, hzs.out]), HB2, hsome, hbx2, by omega⟩
          case measure => simp [intOf]; omega
      · have hl0 : 0 < l.length := List.length_pos_iff.2 hnil
        have HKS := hid (KS_yes (L := L) (k := k) (by rw [hl]; exact hnil))
        have hbf := bodyF_yes (L := L) (k := k) (by rw [hl]; exact hnil)
        rw [hl] at hbf
        have HBF := hid hbf
        rcases hr2.2 with ⟨_, e0⟩ | ⟨g, cap, cur, rfl, hbg, _, hnc, hcm, _, _⟩
        · omega
        have HC := hid (run_at hr2 rfl)
        have hgz : g < w2.heap.size := (hr2.lt g rfl).2
        unfold maxLen at hcm
        have hgu : some g ≠ u5.ownBlock := fun e => by have := HU5.out g e.symm; omega
        have hwu : some w.heap.size ≠ u5.ownBlock := fun e => by have := (World.ownsRow.lt HO2.out _ e.symm).1; omega
        have l3 := uvF_len 9 k
        have l4 := uvF_len 9 l.length
        have e00 : ((l.length : Int) == 0) = false := by simp; omega
        clear hr2 hl hbf hnil
        go_wp2_with fail
        refine (specPut1 k w2 (by omega)).mono ?_
        rintro e w3 ⟨v3, rfl, ho3, hb3, hz3⟩
        have HO3 := hid (HO2.out.kept hb3 (fun k hk => (World.ownsRow.lt HO2.out k hk).2))
        have HV3 := hid ho3
        have HN3 := hid (ho3.some (by omega))
        have HG3 : Hid (Gr w2 w3 u5 u5) := Gr.of_below hb3
        clear ho3 hb3
        go_wp2_with (at_builtin; refine wpList_appB rfl _ _ rfl (w.heap.size + 1) w2.heap.size u5 v3 zs (uvF 9 k) rfl HO3.out rfl HV3.out HN3.out hsome.out ?c1 ?c2 ?_)
        case c1 => omega
        case c2 => omega
        intro v4 w4 ho4 hg4 hn4
        have HG4 := hid (HG3.out.trans hg4)
        have HO4 := hid ho4
        have HN4 := hid hn4
        have z4 := hg4.g.size
        clear ho4 hg4 hn4 HO3 HV3 HN3 HG3
        go_wp2_with fail
        refine (specPut1 l.length w4 (by omega)).mono ?_
        rintro e w5 ⟨v5, rfl, ho5, hb5, hz5⟩
        have HO5 := hid (HO4.out.kept hb5 (fun k hk => (World.ownsRow.lt HO4.out k hk).2))
        have HV5 := hid ho5
        have HN5 := hid (ho5.some (by omega))
        have HG5 : Hid (Gr w4 w5 v4 v4) := Gr.of_below hb5
        clear ho5 hb5
        go_wp2_with (at_builtin; refine wpList_appB rfl _ _ rfl (w.heap.size + 1) w4.heap.size v4 v5 (zs ++ uvF 9 k) (uvF 9 l.length) rfl HO5.out rfl HV5.out HN5.out HN4.out ?d1 ?d2 ?_)
        case d1 => simp; omega
        case d2 => omega
        intro v6 w6 ho6 hg6 hn6
        have HG6 := hid (HG4.out.trans (HG5.out.trans hg6))
        have HO6 := hid ho6
        have HN6 := hid hn6
        have z6 := hg6.g.size
        clear ho6 hg6 hn6 HO5 HV5 HN5 HG5 HO4 HG4 HN4
        go_wp2_with fail
        go_loopw [5, 8, 9] (fun b' la i wr' => ∃ (j : Nat) (zs' : List Int), j ≤ l.length ∧ i = .int .i64 j ∧ la = .int .i64 (lastK l j) ∧ Hid (Own wr' (w.heap.size + 1) b' zs') ∧ Hid (zs' = zs ++ uvF 9 k ++ uvF 9 l.length ++ spK l j) ∧ Hid (Gr w2 wr' u5 b') ∧ Hid (b'.ownBlock ≠ none) ∧ w2.heap.size ≤ wr'.heap.size) (fun _ _ i _ => l.length - (intOf i).toNat)
        case atStart => exact ⟨0, _, Nat.zero_le _, rfl, rfl, HO6, hid (by simp [spK]), HG6, HN6, by omega⟩
        case round =>
          obtain ⟨j, zs', hj, rfl, rfl, hownj, hzsj, hgrj, hsomej, hszj⟩ := hrel
          have hzlj : zs'.length ≤ 240000 + 20 + 20 * j := by
            rw [hzsj.out]
            have := spK_len l j
            simp only [List.length_append]
            omega
          by_cases hlj : j < l.length
          · obtain ⟨q1, q2, q3, q4⟩ := HAT.out j hlj
            have hcF := hgrj.out.g.cell (HC.out j hlj).1 hgu
            have hcT := hgrj.out.g.cell (HC.out j hlj).2 hgu
            have hlk : lastK l j = loK l j - 2 := rfl
            obtain ⟨s1, es1⟩ : ∃ s1 : Int, sF l j - lastK l j = s1 := ⟨_, rfl⟩
            obtain ⟨m1, em1⟩ : ∃ m : Nat, sF l j - loK l j = (m : Int) := ⟨(sF l j - loK l j).toNat, by omega⟩
            obtain ⟨m2, em2⟩ : ∃ m : Nat, sT l j - sF l j = (m : Int) := ⟨(sT l j - sF l j).toNat, by omega⟩
            have x1 : IntKind.i64.wrap (sF l j - lastK l j) = s1 := by rw [es1]; exact wrapIn _ (by omega) (by omega)
            have x2 : IntKind.i64.wrap (s1 - 2) = (m1 : Int) := by rw [show s1 - 2 = (m1 : Int) by omega]; exact wrapIn _ (by omega) (by omega)
            have x3 : IntKind.i64.wrap (sT l j - sF l j) = (m2 : Int) := by rw [em2]; exact wrapIn _ (by omega) (by omega)
            have HSP : Hid (spK l (j + 1) = spK l j ++ (uvF 9 m1 ++ uvF 9 m2)) := by show spK l j ++ _ = _; rw [em1, em2]; rfl
            have HLA : Hid (sT l j = lastK l (j + 1)) := by show sT l j = loK l (j + 1) - 2; show sT l j = sT l j + 2 - 2; omega
            have y1 : m1 ≤ 1000000000 := by omega
            have y2 : m2 ≤ 1000000000 := by omega
            have y3 := uvF_len 9 m1
            have y4 := uvF_len 9 m2
            have hne5 : some g ≠ u5.ownBlock := fun e => by
              rcases hgrj.out.l with h | ⟨i, h, hi⟩
              · exact hgu (e.trans h)
              · rw [h] at e; injection e with e; omega
            clear em1 em2 es1 hlk
            go_wp2_with fail
            refine (specPut1 m1 wr (by omega)).mono ?_
            rintro e w7 ⟨v7, rfl, ho7, hb7, hz7⟩
            have HO7 := hid (hownj.out.kept hb7 (fun k hk => (World.ownsRow.lt hownj.out k hk).2))
            have HV7 := hid ho7
            have HN7 := hid (ho7.some (by omega))
            have HG7 : Hid (Gr wr w7 u5 u5) := Gr.of_below hb7
            clear ho7 hb7
            go_wp2_with (at_builtin; refine wpList_appB rfl _ _ rfl (w.heap.size + 1) wr.heap.size u5 v7 zs' (uvF 9 m1) rfl HO7.out rfl HV7.out HN7.out hsomej.out ?f1 ?f2 ?_)
            case f1 => omega
            case f2 => omega
            intro v8 w8 ho8 hg8 hn8
            have hgs8 := HG7.out.trans hg8
            have hcF8 := hgs8.g.cell hcF hne5
            have hcT8 := hgs8.g.cell hcT hne5
            have hne8 : some g ≠ v8.ownBlock := fun e => by
              rcases hgs8.l with h | ⟨i, h, hi⟩
              · exact hne5 (e.trans h)
              · rw [h] at e; injection e with e; omega
            have HG8 := hid (hgrj.out.trans hgs8)
            have HO8 := hid ho8
            have HN8 := hid hn8
            have z8 := hg8.g.size
            clear ho8 hg8 hn8 HO7 HV7 HN7 HG7 hgs8 hcF hcT x1 x2
            go_wp2_with fail
            refine wp_region_held_drew (S := fun w' => w'.cell? ⟨g, j * 3 + 1, none⟩ = some (.int .i64 (sF l j)) ∧ w'.cell? ⟨g, j * 3 + 2, none⟩ = some (.int .i64 (sT l j))) (by kernel_rfl) ⟨hcF8, hcT8⟩ (fun hHeld => ?_)
            refine tk 0 53 ?_ (by kernel_rfl) (fun _ _ _ h => h) ?_ hHeld (tk 1 54 ?_ (by kernel_rfl) (fun _ _ _ h => h) ?_ hHeld (tk 2 55 ?_ (by kernel_rfl) (fun _ _ _ h => h) ?_ hHeld (tk 3 56 ?_ (by kernel_rfl) (fun _ _ _ h => h) ?_ hHeld ?_)))
            iterate 4 (rotate_left; focus (intro o ho; simp only [gZa, gZb, gZc, gZd] at ho; subst ho; refine Or.inl ⟨by rfl, ?_⟩; intro w hSw; (try dsimp only at hSw); (try simp only [Act.put, sZa, sZb, sZc]); go_simp; try with_reducible rfl))
            try simp only [Act.put, sZa, sZb, sZc]
            refine tk 4 57 ?_ (by kernel_rfl) (fun _ _ _ h => h) ?_ hHeld (tk 5 58 ?_ (by kernel_rfl) (fun _ _ _ h => h) ?_ hHeld (tk 6 59 ?_ (by kernel_rfl) (fun _ _ _ h => h) ?_ hHeld (tk 7 60 ?_ (by kernel_rfl) (fun _ _ _ h => h) ?_ hHeld ?_)))
            iterate 4 (rotate_left; focus (intro o ho; simp only [gZa, gZb, gZc, gZd] at ho; subst ho; refine Or.inl ⟨by rfl, ?_⟩; intro w hSw; (try dsimp only at hSw); (try simp only [Act.put, sZa, sZb, sZc]); go_simp; try with_reducible rfl))
            try simp only [Act.put, sZa, sZb, sZc]
            refine tk 8 61 ?_ (by kernel_rfl) (fun _ _ _ h => h) ?_ hHeld (tk 9 62 ?_ (by kernel_rfl) (fun _ _ _ h => h) ?_ hHeld (tk 10 63 ?_ (by kernel_rfl) (fun _ _ _ h => h) ?_ hHeld (tk 11 64 ?_ (by kernel_rfl) (fun _ _ _ h => h) ?_ hHeld ?_)))
            iterate 4 (rotate_left; focus (intro o ho; simp only [gZa, gZb, gZc, gZd] at ho; subst ho; refine Or.inl ⟨by rfl, ?_⟩; intro w hSw; (try dsimp only at hSw); (try simp only [Act.put, sZa, sZb, sZc]); go_simp; try with_reducible rfl))
            try simp only [Act.put, sZa, sZb, sZc]
            refine call1 (i := 12) (d := some 65) (by kernel_rfl) (by kernel_rfl) ?_
            intro o ho hod K hK; simp only [gZa, gZb, gZc, gZd] at ho; subst ho
            go_simp
            refine (specPut1 m2 _ (by omega)).mono ?_
            rintro e w9 ⟨v9, rfl, ho9, hb9, hz9⟩
            have hb9' : Below w8.heap.size w8 w9 := (Below.refl _ w8).drew.trans hb9
            have HO9 := hid (HO8.out.kept hb9' (fun k hk => (World.ownsRow.lt HO8.out k hk).2))
            have HV9 := hid ho9
            have HN9 := hid (ho9.some (by omega))
            have HG9 : Hid (Gr w8 w9 v8 v8) := Gr.of_below hb9'
            have hcF9 := HG9.out.g.cell hcF8 hne8
            have hcT9 := HG9.out.g.cell hcT8 hne8
            have z9 := hb9'.size
            clear ho9 hb9 hb9'
            refine hK.out _ _ ⟨hcF9, hcT9⟩ (fun hHeld => ?_)
            clear hK K
            try simp only [Act.put, sZa, sZb, sZc]
            refine call1 (i := 13) (d := some 66) (by kernel_rfl) (by kernel_rfl) ?_
            intro o ho hod K hK; simp only [gZa, gZb, gZc, gZd] at ho; subst ho
            rw [if_pos (by rfl)]
            refine wp_appB _ _ (by rfl) (w.heap.size + 1) w8.heap.size v8 v9 (zs' ++ uvF 9 m1) (uvF 9 m2) (by rfl) HO9.out (by rfl) HV9.out HN9.out HN8.out (by simp; omega) (by omega) ?_
            intro v10 w10 ho10 hg10 hn10
            have hcF10 := hg10.g.cell hcF9 hne8
            have hcT10 := hg10.g.cell hcT9 hne8
            have HG10 := hid (HG8.out.trans (HG9.out.trans hg10))
            have HO10 := hid ho10
            have HN10 := hid hn10
            have z10 := hg10.g.size
            clear ho10 hg10 hn10
            refine hK.out _ _ ⟨hcF10, hcT10⟩ (fun hHeld => ?_)
            clear hK K
            try simp only [Act.put, sZa, sZb, sZc]
            refine tk 14 5 ?_ (by kernel_rfl) (fun _ _ _ h => h) ?_ hHeld ?_
            rotate_left
            · (intro o ho; simp only [gZa, gZb, gZc, gZd] at ho; subst ho; refine Or.inl ⟨by rfl, ?_⟩; intro w hSw; (try dsimp only at hSw); go_simp; try with_reducible rfl)
            try simp only [Act.put, sZa, sZb, sZc]
            refine wpAnyH_done (by kernel_rfl) ?_ _
            clear hHeld hcF8 hcT8 hcF9 hcT9 HO9 HV9 HN9 HG9 HO8 HN8 HG8
            go_wp2_with fail
            go_roundw
            case rel => exact ⟨j + 1, _, hlj, by go_num, by rw [HLA.out], HO10, hid (by rw [HSP.out, hzsj.out]; simp), HG10, HN10, by omega⟩
            case measure => simp [intOf]; omega
          · obtain rfl : j = l.length := by omega
            go_wp2_with fail
            go_roundw
            case rel =>
              refine ⟨k + 1, zs', hlt, by go_num, ?_, hownj, hid ?_, hid ?_, hsomej, hgrj.out.g.cell hbx2 hwu, by omega⟩
              · rw [HKS.out]; simp
              · rw [HBF.out, hzsj.out, hzs.out]; simp
              · exact HB2.out.trans (hgrj.out.below (by omega) (fun g hg => by have := (World.ownsRow.lt HO2.out g hg).1; omega))
            case measure => simp [intOf]; omega
    · obtain rfl : k = 8 := by omega
      have hzl : zs.length ≤ 30000 * 8 := by rw [hzs.out]; exact bodyF_len HLen.out 8
      have hkl := KS_len L 8
      have l3 := uvF_len 9 (KS L 8).length
      have HPB := hid (putB_eq L)
      go_wp2_with fail
      refine (specPut1 (KS L 8).length wr (by omega)).mono ?_
      rintro e w3 ⟨v3, rfl, ho3, hb3, hz3⟩
      have HO3 := hid (hown.out.kept hb3 (fun k hk => (World.ownsRow.lt hown.out k hk).2))
      have HV3 := hid ho3
      have HN3 := hid (ho3.some (by omega))
      have HB3 := hid (hbel.out.trans (hb3.mono (by omega)))
      have hlow : Hid (∀ g, v3.ownBlock = some g → wr.heap.size ≤ g) := fun g hg => (World.ownsRow.lt ho3 g hg).1
      clear ho3 hb3
      go_wp2_with (at_builtin; refine wpList_appB rfl _ _ rfl wr.heap.size (w.heap.size + 1) v3 u5 (uvF 9 (KS L 8).length) zs rfl HV3.out rfl HO3.out hsome.out HN3.out ?g1 ?g2 ?_)
      case g1 => omega
      case g2 => omega
      intro v4 w4 ho4 hg4 hn4
      have HG4 := hid hg4
      have HO4 := hid ho4
      clear ho4 hg4 hn4 HO3 HV3
      go_wp2_with fail
      go_ret2
      refine ⟨v4, rfl, ?_, HB3.out.trans (HG4.out.below (by omega) (fun g hg => by have := hlow.out g hg; omega))⟩
      rw [HPB.out, ← hzs.out]
      exact HO4.out.weak (by omega)
def putZ (R F T : Nat → Int) (n : Nat) : List Int := if ctxB R F T n then putB (Lk R F T n) else []
theorem putZ_len (R F T : Nat → Int) (n : Nat) : (putZ R F T n).length ≤ 1000000 := by
  unfold putZ
  split
  · rename_i h
    have hok := ctxB_iff.1 h
    rw [putB_eq]
    have h1 := (uvF_len 9 (KS (Lk R F T n) 8).length).1
    have h2 := bodyF_len (L := Lk R F T n) (fun r => Nat.le_trans (Lk_len R F T n r) hok.2) 8
    simp only [List.length_append]; omega
  · simp
theorem Own.any {w : World} {B : Nat} {v : Value} {zs : List Int} (h : Own w B v zs) : ∃ a cap, v = .slice a zs.length cap ∧ Seg w a zs.length (fun i => zs.getD i 0) := by
  by_cases hz : zs = []
  · subst hz
    obtain ⟨_, h2⟩ := h
    rcases h2 with ⟨rfl, _⟩ | ⟨g, cap, cur, rfl, _⟩
    · exact ⟨none, 0, rfl, .inl rfl⟩
    · exact ⟨_, cap, rfl, .inl rfl⟩
  · obtain ⟨g, cap, rfl, _, _, _, _, _, s⟩ := h.shape hz
    exact ⟨_, cap, rfl, s⟩
end Go.Proofs.YtakmpmhjcngbbaaGreatDoor
