import Derived.Test.YtakmpmhjcngbbaaGreatDoorMgg26
set_option linter.unusedVariables false
set_option linter.unusedSimpArgs false
set_option maxRecDepth 100000
set_option maxHeartbeats 40000000
namespace Go.Proofs.YtakmpmhjcngbbaaGreatDoor
open Go.ChangeShapes Go.WideShapes Go.ChangeAt Go.RowKit
section
variable {f : Nat → Int} {n : Nat} {K : Int → Int → Bool} {kind : Int} {p : List ByteArray}
theorem rdLf_way {before : Dt} {acc : List Lf} {x x' : Nat} {z : Lf} (h : rdLf f n K kind p before acc x = some (z, x')) : z.p = p ∧ z.fl = decide (kind = 2) := by
  unfold rdLf at h
  obtain ⟨a1, h1, h⟩ := bind_some_iff.1 h
  obtain ⟨a2, h2, h⟩ := bind_some_iff.1 h
  split at h
  · split at h
    · rename_i hk
      simp only [Option.some.injEq, Prod.mk.injEq] at h
      obtain ⟨rfl, _⟩ := h
      exact ⟨rfl, by simp [hk]⟩
    · rename_i hk
      obtain ⟨t, _, h⟩ := bind_some_iff.1 h
      simp only [Option.some.injEq, Prod.mk.injEq] at h
      obtain ⟨rfl, _⟩ := h
      exact ⟨rfl, by simp [hk]⟩
  · cases h
theorem rdLs_way : ∀ (k : Nat) (before : Dt) (acc : List Lf) (x : Nat) {acc' : List Lf} {x' : Nat}, rdLs f n K kind p k before acc x = some (acc', x') → ∃ l, acc' = acc ++ l ∧ l.length = k ∧ ∀ z ∈ l, z.p = p ∧ z.fl = decide (kind = 2)
  | 0, before, acc, x, acc', x', h => by
    simp only [rdLs, Option.some.injEq, Prod.mk.injEq] at h
    exact ⟨[], by simp [h.1], rfl, fun z hz => by simp at hz⟩
  | k + 1, before, acc, x, acc', x', h => by
    unfold rdLs at h
    obtain ⟨a, h1, h⟩ := bind_some_iff.1 h
    obtain ⟨l, e, hl, hw⟩ := rdLs_way k _ _ _ h
    refine ⟨a.1 :: l, by rw [e]; simp, by simp [hl], fun z hz => ?_⟩
    rcases List.mem_cons.1 hz with rfl | hz
    · exact rdLf_way (x' := a.2) h1
    · exact hw z hz
theorem rdLv_way {acc l : List Lf} {x x' : Nat} (h : rdLv f n K kind p acc x = some (acc ++ l, x')) : l ≠ [] ∧ ∀ z ∈ l, z.p = p ∧ z.fl = decide (kind = 2) := by
  unfold rdLv at h
  obtain ⟨a, h1, h⟩ := bind_some_iff.1 h
  by_cases h0 : a.1 = 0
  · rw [if_pos h0] at h; cases h
  · rw [if_neg h0] at h
    obtain ⟨l', e, hl, hw⟩ := rdLs_way a.1 _ _ _ h
    have e2 := List.append_cancel_left e
    subst e2
    refine ⟨fun e => by rw [e] at hl; simp at hl; omega, hw⟩
end
def NdP (w : World) (tb B kb ub bs hi : Nat) (a : Option Addr) (n c : Nat) (f : Nat → Int) (aT aS aL aE : Addr) (L : Int → List (Int × Int)) (acc : List Lf) (R : Option (List Lf × Nat)) (z : List Ky) (D : Nat) (e : Ending) (w' : World) : Prop := G2 tb ub w w' ∧
  ((∃ (J : List Lf) (x' cnt : Nat) (N : List Ky → Option (Nat × Nat)) (x0 : Nat × Nat), R = some (acc ++ J, x') ∧ e = .returned (.tuple #[.agg #[.map (some x0.1), .map (some x0.2)], .nilIface]) ∧ TS w' tb B kb ub bs hi a n c f aT aS aL aE L ((x' : Nat) : Int) (acc ++ J) ∧
      (∀ y ∈ J, z <+: Way y) ∧ (J ≠ [] ∨ z = []) ∧ cnt ≤ D * J.length ∧ (acc ++ J).length ≤ 1000 ∧ JF w' w.heap.size J z N cnt x0) ∨
   (R = none ∧ ∃ t v, e = .returned (.tuple #[.agg #[.map none, .map none], .iface t v])))
section
variable {w w' : World} {B B' c c' tb ub : Nat} {N : List Ky → Option (Nat × Nat)} {M : List Ky → Dt → Option ByteArray} {J : List Lf} {z : List Ky} {K : Ky → Prop} {x0 : Nat × Nat}
theorem Tre.lower (h : Tre w B N M c) (hb : B' ≤ B) : Tre w B' N M c := ⟨h.kids, h.marks, h.apart, fun p x hx => ⟨Nat.le_trans hb (h.lo p x hx).1, Nat.le_trans hb (h.lo p x hx).2⟩, h.none', h.up⟩
theorem Tre.g2 (h : Tre w B N M c) (g : G2 tb ub w w') (h1 : tb < B) (h2 : ub < B) : Tre w' B N M c := h.same fun p x hx => by
  have l := h.lo p x hx
  have k := h.lt hx
  exact ⟨g.block _ k.1 (by omega) (by omega), g.block _ k.2 (by omega) (by omega)⟩
theorem Tre.box (h : Tre w B N M c) {b i : Nat} {v : Value} (hc : w.cell? ⟨b, i, none⟩ = some v) (g : w.grownBy w' (some b)) : Tre w' B N M c := h.same fun p x hx => by
  refine ⟨g.block _ (h.lt hx).1 fun e => ?_, g.block _ (h.lt hx).2 fun e => ?_⟩
  · injection e with e
    obtain ⟨es, cl, ho⟩ := (h.kids p x hx).obj
    rw [e] at ho; exact cell_obj hc _ _ ho
  · injection e with e
    obtain ⟨es, cl, ho⟩ := (h.marks p x hx).obj
    rw [e] at ho; exact cell_obj hc _ _ ho
theorem JF.lower (h : JF w B J z N c x0) (hb : B' ≤ B) : JF w B' J z N c x0 := ⟨h.tre.lower hb, h.root, h.there⟩
theorem JF.mono (h : JF w B J z N c x0) (hc : c ≤ c') : JF w B J z N c' x0 := ⟨h.tre.mono hc, h.root, h.there⟩
theorem JF.box (h : JF w B J z N c x0) {b i : Nat} {v : Value} (hc : w.cell? ⟨b, i, none⟩ = some v) (g : w.grownBy w' (some b)) : JF w' B J z N c x0 := ⟨h.tre.box hc g, h.root, h.there⟩
theorem JF.below (h : JF w B J z N c x0) (hb : Below w.heap.size w w') : JF w' B J z N c x0 := ⟨h.tre.below hb, h.root, h.there⟩
theorem JT.mono (h : JT w B J z K N c x0) (hc : c ≤ c') : JT w B J z K N c' x0 := ⟨h.tre.mono hc, h.root, h.there⟩
theorem JT.box (h : JT w B J z K N c x0) {b i : Nat} {v : Value} (hc : w.cell? ⟨b, i, none⟩ = some v) (g : w.grownBy w' (some b)) : JT w' B J z K N c x0 := ⟨h.tre.box hc g, h.root, h.there⟩
theorem JT.g2 (h : JT w B J z K N c x0) (g : G2 tb ub w w') (h1 : tb < B) (h2 : ub < B) : JT w' B J z K N c x0 := ⟨h.tre.g2 g h1 h2, h.root, h.there⟩
theorem JT.new (z : List Ky) (hk : MapF w 110 (α := Ky) keyV nodV x0.1 0 (fun _ => none)) (hm : MapF w 87 (α := Dt) dtV mrkV x0.2 0 (fun _ => none)) (hne : x0.1 ≠ x0.2) (hB : B ≤ x0.1 ∧ B ≤ x0.2) : JT w B [] z (fun _ => False) (fun r => if r = [] then some x0 else none) 0 x0 := by
  have e : mJ [] z (fun _ => False) = fun _ _ => none := by
    funext r
    cases r with
    | nil => rfl
    | cons y r => simp only [mJ]; rw [if_neg (by rw [yes_f (fun h => h)]; simp)]
  refine ⟨by rw [e]; exact Tre.new hk hm hne hB, by simp, fun y r => ?_⟩
  simp
theorem pre_key {u v : Ky} {q : List Ky} (h1 : z ++ [u] <+: q) (h2 : z ++ [v] <+: q) : u = v := by
  have e := List.IsPrefix.eq_of_length (List.prefix_of_prefix_length_le h1 h2 (by simp)) (by simp)
  simpa using e
end
structure TL (w : World) (B : Nat) (l : List Lf) (z : List Ky) (before : Ky) (D k : Nat) (x0 : Nat × Nat) : Prop where
  ex : ∃ (K : Ky → Prop) (N : List Ky → Option (Nat × Nat)) (c : Nat), JT w B l z K N c x0 ∧ (∀ u, K u → cmpK u before ≤ 0) ∧ (∀ x ∈ l, ∃ v, K v ∧ (z ++ [v]) <+: Way x) ∧ c ≤ D * l.length
  some' : k ≤ l.length
section
variable {w w' v : World} {B D k tb ub : Nat} {J l : List Lf} {z : List Ky} {before y : Ky} {x0 : Nat × Nat}
theorem TL.new (z : List Ky) (before : Ky) (D : Nat) (hk : MapF w 110 (α := Ky) keyV nodV x0.1 0 (fun _ => none)) (hm : MapF w 87 (α := Dt) dtV mrkV x0.2 0 (fun _ => none)) (hne : x0.1 ≠ x0.2) (hB : B ≤ x0.1 ∧ B ≤ x0.2) : TL w B [] z before D 0 x0 :=
  ⟨⟨_, _, 0, JT.new z hk hm hne hB, fun _ h => h.elim, fun x hx => by simp at hx, Nat.zero_le _⟩, Nat.zero_le _⟩
theorem TL.box (h : TL w B l z before D k x0) {b i : Nat} {v : Value} (hc : w.cell? ⟨b, i, none⟩ = some v) (g : w.grownBy w' (some b)) : TL w' B l z before D k x0 := by
  obtain ⟨⟨K, N, c, h1, h2⟩, h3⟩ := h
  exact ⟨⟨K, N, c, h1.box hc g, h2⟩, h3⟩
theorem TL.full (h : TL w B l z before D k x0) : ∃ N c, JF w B l z N c x0 ∧ c ≤ D * l.length ∧ ∀ x ∈ l, z <+: Way x := by
  obtain ⟨⟨K, N, c, h1, h2, h3, h4⟩, _⟩ := h
  refine ⟨N, c, h1.full fun y ⟨x, hx, hp⟩ => ?_, h4, fun x hx => ?_⟩
  · obtain ⟨v, hv, hq⟩ := h3 x hx
    rw [pre_key hp hq]; exact hv
  · obtain ⟨v, hv, hq⟩ := h3 x hx
    exact (List.prefix_append _ _).trans hq
theorem TL.hang {B1 cnt : Nat} {N1 : List Ky → Option (Nat × Nat)} {x1 : Nat × Nat} (h : TL w B l z before (D + 1) k x0) (g : G2 tb ub w v) (h1 : tb < B) (h2 : ub < B) (hj : JF v B1 J (z ++ [y]) N1 cnt x1) (hb1 : w.heap.size ≤ B1) (hb : B ≤ w.heap.size) (hy : cmpK before y < 0) (hJ : ∀ x ∈ J, (z ++ [y]) <+: Way x) (hne : J ≠ []) (hc : cnt ≤ D * J.length) :
    ∃ (c : Nat) (F : Ky → Option (Nat × Nat)), c ≤ (D + 1) * (l ++ J).length ∧ MapF v 110 keyV nodV x0.1 c F ∧ ∀ w', v.grownBy w' (some x0.1) → MapF w' 110 keyV nodV x0.1 (c + 1) (updF F y (some x1)) → TL w' B (l ++ J) z y (D + 1) (k + 1) x0 := by
  obtain ⟨⟨K, N, c, k1, k2, k3, k4⟩, k5⟩ := h
  have hl : 1 ≤ J.length := List.length_pos_iff.2 hne
  have hlen : D * J.length + 1 ≤ (D + 1) * J.length := by rw [Nat.succ_mul]; omega
  have hsum : (D + 1) * (l ++ J).length = (D + 1) * l.length + (D + 1) * J.length := by rw [List.length_append, Nat.mul_add]
  have hn : ¬ K y := fun hk => by
    have := k2 y hk
    have := CmpT.key.neg y before
    have := CmpT.key.irr y
    rcases Int.lt_or_eq_of_le (k2 y hk) with e | e
    · have := CmpT.key.tr _ _ _ e hy; omega
    · rw [(CmpT.key.z _ _).1 e] at hy; rw [CmpT.key.irr] at hy; omega
  have t1 := k1.g2 g h1 h2
  have t2 : JT v B (l ++ J) z K N (c + cnt) x0 := (t1.more (fun x hx e => by
    have := (hJ x hx).length_le
    rw [e] at this; simp at this; omega) (fun x hx u hu hp => by
    have e := pre_key hp (hJ x hx)
    rw [e] at hu; exact hn hu)).mono (Nat.le_add_right _ _)
  have t3 : JF v B (l ++ J) (z ++ [y]) N1 (c + cnt) x1 := (((hj.lower (Nat.le_trans hb hb1)).more (fun x hx hp => by
    obtain ⟨u, hu, hq⟩ := k3 x hx
    rw [pre_key hp hq] at hn; exact hn hu)).mono (Nat.le_add_left _ _))
  refine ⟨c + cnt, fun u => N [u], by omega, t2.tre.kids [] x0 t2.root, fun w' gw m => ?_⟩
  have hap : ApN N N1 := fun p q a b ha hb' => by
    have e1 := k1.tre.lt ha
    have e2 := hj.tre.lo q b hb'
    exact ⟨by omega, by omega, by omega, by omega⟩
  have hh := t2.hang t3 hn ⟨_, List.mem_append.2 (.inr (List.getLast_mem hne)), hJ _ (List.getLast_mem hne)⟩ hap gw (m.ext fun u => by
    by_cases e : u = y
    · subst e; rw [updF_same, if_pos rfl]
    · rw [updF_other _ _ e, if_neg e])
  refine ⟨⟨_, _, _, hh, fun u hu => ?_, fun x hx => ?_, by omega⟩, by rw [List.length_append]; omega⟩
  · rcases hu with hu | rfl
    · rcases Int.lt_or_eq_of_le (k2 u hu) with e | e
      · exact Int.le_of_lt (CmpT.key.tr _ _ _ e hy)
      · rw [(CmpT.key.z _ _).1 e]; exact Int.le_of_lt hy
    · rw [CmpT.key.irr]; exact Int.le_refl _
  · rcases List.mem_append.1 hx with hx | hx
    · obtain ⟨u, hu, hq⟩ := k3 x hx
      exact ⟨u, .inl hu, hq⟩
    · exact ⟨y, .inr rfl, hJ x hx⟩
end
section
variable {w W w' : World} {tb B kb ub bs hi : Nat} {a : Option Addr} {n c : Nat} {f : Nat → Int} {aT aS aL aE : Addr} {L : Int → List (Int × Int)} {acc : List Lf} {R : Option (List Lf × Nat)} {z : List Ky} {D D' : Nat} {e : Ending}
end
end Go.Proofs.YtakmpmhjcngbbaaGreatDoor
namespace Go.Proofs.YtakmpmhjcngbbaaGreatDoor
open Go.ChangeShapes Go.WideShapes Go.ChangeAt Go.RowKit Go.Maps
section
variable {w W w' : World} {tb B kb ub bs hi : Nat} {a : Option Addr} {n c : Nat} {f : Nat → Int} {aT aS aL aE : Addr} {L : Int → List (Int × Int)} {acc : List Lf} {R : Option (List Lf × Nat)} {z : List Ky} {D D' : Nat} {e : Ending}
theorem LvP.node {x : Nat} {kind : Int} {s : ByteArray} {p : List ByteArray} (hk : kind = 1 ∨ kind = 2) (hD : 1 ≤ D) (h : LvP w tb B kb ub bs hi a n c f aT aS aL aE L x acc kind (p ++ [s]) e w') : NdP w tb B kb ub bs hi a n c f aT aS aL aE L acc (rdLv f n (fun r q => inB (L r) q q) kind (p ++ [s]) acc x) (wayOf p 3 ++ [(s, kind)]) D e w' := by
  obtain ⟨g, ⟨l, x', s1, s2, h1, h2, h3, h4, h5, h6, h7, h8, h9⟩ | h⟩ := h
  · obtain ⟨hne, hw⟩ := rdLv_way h1
    have hway : ∀ x ∈ l, Way x = wayOf p 3 ++ [(s, kind)] := fun x hx => by
      obtain ⟨e1, e2⟩ := hw x hx
      unfold Way
      rw [e1, e2, wayOf_snoc]
      rcases hk with rfl | rfl <;> rfl
    exact ⟨g, .inl ⟨l, x', l.length, _, (s1, s2), h1, h2, h3, fun y hy => by rw [hway y hy]; exact List.prefix_refl _, .inl hne, Nat.le_mul_of_pos_left _ hD, h4, JF.leaves hway h5 h6 h7 h8 h9⟩⟩
  · exact ⟨g, .inr h⟩
end
theorem NB.fill2 {v : World} {b : Nat} (h : NB v b) (s s' : Option Nat) :
    ∃ Z, Z = (v.setCell ⟨b, 0, none⟩ (.map s)).setCell ⟨b, 1, none⟩ (.map s') ∧ Z.cell? ⟨b, 0, none⟩ = some (.map s) ∧ Z.cell? ⟨b, 1, none⟩ = some (.map s') ∧ v.grownBy Z (some b) := by
  obtain ⟨u0, k0⟩ := h.c0
  obtain ⟨u1, k1⟩ := h.c1
  refine ⟨_, rfl, ?_, ?_, ⟨rfl, rfl, rfl, by simp [World.setCell], fun k hk hne => ?_⟩⟩
  · rw [World.cell?_setCell_other _ _ _ _ (by simp)]
    exact World.cell?_setCell_same _ _ _ k0
  · exact World.cell?_setCell_same _ _ _ (by rw [World.cell?_setCell_other _ _ _ _ (by simp)]; exact k1)
  · have hk2 : k ≠ b := fun e => hne (by rw [e])
    exact (Below.heap_setCell _ _ _ _ hk2).trans (Below.heap_setCell _ _ _ _ hk2)
theorem kidC (tb B kb ub bs hi : Nat) (a : Option Addr) (n c : Nat) (f : Nat → Int) (aT aS aL aE : Addr) (L : Int → List (Int × Int)) (x : Nat) (acc : List Lf) (s : ByteArray) (kind dep : Int) (p : List ByteArray) (rec : List ByteArray → List Lf → Nat → Option (List Lf × Nat)) (D : Nat) (w : World) (hn : n ≤ 1048576) (hnc : n ≤ c) (hcc : c ≤ 4611686018427387904) (hf : Byt f) (hD : 1 ≤ D)
    (hT : TS w tb B kb ub bs hi a n c f aT aS aL aE L (x : Int) acc) (hhi : hi ≤ w.heap.size) (hS : ∀ r, Srt (L r) ∧ (L r).length ≤ 1000000) (hl : acc.length ≤ 1000)
    (hrec : kind = 3 → ∀ W, TS W tb B kb ub bs hi a n c f aT aS aL aE L (x : Int) acc → hi ≤ W.heap.size → Calls Tryz.prog 30 #[.pointer (some ⟨tb, 0, none⟩), .int .i64 dep] W fun e w' => NdP W tb B kb ub bs hi a n c f aT aS aL aE L acc (rec (p ++ [s]) acc x) (wayOf p 3 ++ [(s, kind)]) D e w') :
    Calls Tryz.prog 51 #[.pointer (some ⟨tb, 0, none⟩), .int .i64 kind, .int .i64 dep] w fun e w' => NdP w tb B kb ub bs hi a n c f aT aS aL aE L acc (rdKd f n (fun r q => inB (L r) q q) rec p (s, kind) acc x) (wayOf p 3 ++ [(s, kind)]) D e w' := by
  obtain ⟨P, hP⟩ : ∃ P, NdP w tb B kb ub bs hi a n c f aT aS aL aE L acc (rdKd f n (fun r q => inB (L r) q q) rec p (s, kind) acc x) (wayOf p 3 ++ [(s, kind)]) D = P := ⟨_, rfl⟩
  rw [hP]
  have HP := hid hP
  clear hP
  obtain ⟨W, hW⟩ : ∃ W, w.alloc (.cells #[.map none, .map none] 47) = W := ⟨_, rfl⟩
  have b0 : Below w.heap.size w W := by rw [← hW]; exact (Below.refl _ _).alloc (Nat.le_refl _) _
  have zW : W.heap.size = w.heap.size + 1 := by rw [← hW]; simp
  have HR0 : Hid (NB W w.heap.size) := hid (by rw [← hW]; exact NB.made _ _)
  have HT0 := hid (hT.below b0)
  have HG0 := hid (G2.below (tb := tb) (ub := ub) b0)
  have ht0 : tb < w.heap.size := hT.cur.lt
  have hu0 : ub < w.heap.size := hT.us.lt
  have hbt := hT.bt
  have hwt : w.heap.size ≠ tb := by omega
  have hwu : w.heap.size ≠ ub := by omega
  have hww : w.heap.size ≤ w.heap.size := Nat.le_refl _
  have HZ := hid zW
  have HCase : Hid (∀ (R : Option (List Lf × Nat)) (e : Ending) (w1 : World), rdKd f n (fun r q => inB (L r) q q) rec p (s, kind) acc x = R → NdP W tb B kb ub bs hi a n c f aT aS aL aE L acc R (wayOf p 3 ++ [(s, kind)]) D e w1 →
      (∃ t v, e = .returned (.tuple #[.agg #[.map none, .map none], .iface t v]) ∧ NB w1 w.heap.size ∧ ∀ Z, G2 tb ub w1 Z ∨ w1.grownBy Z (some w.heap.size) → P (.returned (.tuple #[.agg #[.map none, .map none], .iface t v])) Z) ∨
      (∃ x0 : Nat × Nat, e = .returned (.tuple #[.agg #[.map (some x0.1), .map (some x0.2)], .nilIface]) ∧ NB w1 w.heap.size ∧ ∀ Z, w1.grownBy Z (some w.heap.size) → P (.returned (.tuple #[.agg #[.map (some x0.1), .map (some x0.2)], .nilIface])) Z)) := hid (fun R e w1 hR h => by
    have hN := HR0.out.g2 h.1 hwt hwu
    obtain ⟨g, ⟨J, x', cnt, N, x0, k1, k2, k3, k4, k5, k6, k7, k8⟩ | ⟨h2, t, v, h3⟩⟩ := h
    · refine .inr ⟨x0, k2, hN, fun Z gz => ?_⟩
      obtain ⟨u0, q0⟩ := hN.c0
      rw [← HP.out]
      exact ⟨(HG0.out.trans g).gr gz hww, .inl ⟨J, x', cnt, N, x0, by rw [hR, k1], rfl, k3.gr gz hhi, k4, k5, k6, k7, (k8.lower HG0.out.size).box q0 gz⟩⟩
    · refine .inl ⟨t, v, h3, hN, fun Z gz => ?_⟩
      rw [← HP.out]
      refine ⟨?_, .inr ⟨by rw [hR, h2], t, v, rfl⟩⟩
      rcases gz with gz | gz
      · exact (HG0.out.trans g).trans gz
      · exact (HG0.out.trans g).gr gz hww)
  clear b0 zW
  rcases Decidable.em (kind = 1 ∨ kind = 2) with hk | hk
  · have HL := hid (leavesC tb B kb ub bs hi a n c f aT aS aL aE L x acc kind (p ++ [s]) W hn hnc hcc hf hk HT0.out (by have := HZ.out; omega) hS hl)
    have HE : Hid (rdKd f n (fun r q => inB (L r) q q) rec p (s, kind) acc x = rdLv f n (fun r q => inB (L r) q q) kind (p ++ [s]) acc x) := hid (by
      unfold rdKd rdLv
      rw [if_neg (by rcases hk with rfl | rfl <;> simp), if_pos hk])
    have HK := hid hk
    clear hT hS hrec
    have main : ∀ e w1, LvP W tb B kb ub bs hi a n c f aT aS aL aE L x acc kind (p ++ [s]) e w1 → (∃ t v, e = .returned (.tuple #[.agg #[.map none, .map none], .iface t v]) ∧ NB w1 w.heap.size ∧ ∀ Z, G2 tb ub w1 Z ∨ w1.grownBy Z (some w.heap.size) → P (.returned (.tuple #[.agg #[.map none, .map none], .iface t v])) Z) ∨
      (∃ x0 : Nat × Nat, e = .returned (.tuple #[.agg #[.map (some x0.1), .map (some x0.2)], .nilIface]) ∧ NB w1 w.heap.size ∧ ∀ Z, w1.grownBy Z (some w.heap.size) → P (.returned (.tuple #[.agg #[.map (some x0.1), .map (some x0.2)], .nilIface])) Z) := fun e w1 h => HCase.out _ e w1 HE.out (LvP.node HK.out hD h)
    have HM := hid main
    clear main HCase HE
    rcases hk with rfl | rfl
    all_goals
      go_enter Tryz.func51, Tryz.ntmps51
      go_wp2_with fail
      try rw [hW]
      clear hW
      refine HL.out.mono ?_
      intro e w1 h
      rcases HM.out e w1 h with ⟨t, v, rfl, hN, hZ⟩ | ⟨x0, rfl, hN, hZ⟩
      · have HN := hid hN
        have HZ2 := hid hZ
        obtain ⟨u0, k0⟩ := hN.c0
        obtain ⟨u1, k1⟩ := hN.c1
        have f0 := hN.f0
        clear h hN hZ HL HM
        go_wp2_with fail
        obtain ⟨Z, hZ, q0, q1, gg⟩ := HN.out.fill2 none none
        rw [← hZ]
        clear hZ
        refine bodyPost_ret (v := .tuple #[.agg #[.map none, .map none], .iface t v]) (by simp [results, Tryz.results51, go_sem, q0, q1]) rfl ?_
        exact HZ2.out Z (.inr gg)
      · have HN := hid hN
        have HZ2 := hid hZ
        obtain ⟨u0, k0⟩ := hN.c0
        obtain ⟨u1, k1⟩ := hN.c1
        have f0 := hN.f0
        obtain ⟨s1, s2⟩ := x0
        clear h hN hZ HL HM
        go_wp2_with fail
        obtain ⟨Z, hZ, q0, q1, gg⟩ := HN.out.fill2 (some s1) (some s2)
        rw [← hZ]
        clear hZ
        refine bodyPost_ret (v := .tuple #[.agg #[.map (some s1), .map (some s2)], .nilIface]) (by simp [results, Tryz.results51, go_sem, q0, q1]) rfl ?_
        exact HZ2.out Z gg
  · by_cases h3 : kind = 3
    · have HL := hid (hrec h3 W HT0.out (by have := HZ.out; omega))
      have HE : Hid (rdKd f n (fun r q => inB (L r) q q) rec p (s, kind) acc x = rec (p ++ [s]) acc x) := hid (by
        unfold rdKd
        rw [if_pos h3])
      have main : ∀ e w1, NdP W tb B kb ub bs hi a n c f aT aS aL aE L acc (rec (p ++ [s]) acc x) (wayOf p 3 ++ [(s, kind)]) D e w1 → (∃ t v, e = .returned (.tuple #[.agg #[.map none, .map none], .iface t v]) ∧ NB w1 w.heap.size ∧ ∀ Z, G2 tb ub w1 Z ∨ w1.grownBy Z (some w.heap.size) → P (.returned (.tuple #[.agg #[.map none, .map none], .iface t v])) Z) ∨
        (∃ x0 : Nat × Nat, e = .returned (.tuple #[.agg #[.map (some x0.1), .map (some x0.2)], .nilIface]) ∧ NB w1 w.heap.size ∧ ∀ Z, w1.grownBy Z (some w.heap.size) → P (.returned (.tuple #[.agg #[.map (some x0.1), .map (some x0.2)], .nilIface])) Z) := fun e w1 h => HCase.out _ e w1 HE.out h
      have HM := hid main
      clear main HCase HE hk hrec hT hS
      subst h3
      go_enter Tryz.func51, Tryz.ntmps51
      go_wp2_with fail
      try rw [hW]
      clear hW
      refine HL.out.mono ?_
      intro e w1 h
      rcases HM.out e w1 h with ⟨t, v, rfl, hN, hZ⟩ | ⟨x0, rfl, hN, hZ⟩
      · have HN := hid hN
        have HZ2 := hid hZ
        obtain ⟨u0, k0⟩ := hN.c0
        obtain ⟨u1, k1⟩ := hN.c1
        have f0 := hN.f0
        clear h hN hZ HL HM
        go_wp2_with fail
        obtain ⟨Z, hZ, q0, q1, gg⟩ := HN.out.fill2 none none
        rw [← hZ]
        clear hZ
        refine bodyPost_ret (v := .tuple #[.agg #[.map none, .map none], .iface t v]) (by simp [results, Tryz.results51, go_sem, q0, q1]) rfl ?_
        exact HZ2.out Z (.inr gg)
      · have HN := hid hN
        have HZ2 := hid hZ
        obtain ⟨u0, k0⟩ := hN.c0
        obtain ⟨u1, k1⟩ := hN.c1
        have f0 := hN.f0
        obtain ⟨s1, s2⟩ := x0
        clear h hN hZ HL HM
        go_wp2_with fail
        obtain ⟨Z, hZ, q0, q1, gg⟩ := HN.out.fill2 (some s1) (some s2)
        rw [← hZ]
        clear hZ
        refine bodyPost_ret (v := .tuple #[.agg #[.map (some s1), .map (some s2)], .nilIface]) (by simp [results, Tryz.results51, go_sem, q0, q1]) rfl ?_
        exact HZ2.out Z gg
    · have HN : Hid (rdKd f n (fun r q => inB (L r) q q) rec p (s, kind) acc x = none) := hid (by
        unfold rdKd
        rw [if_neg h3, if_neg hk])
      have e1 : (kind == 1) = false := by simp; omega
      have e2 : (kind == 2) = false := by simp; omega
      have e3 : (kind == 3) = false := by simp; omega
      obtain ⟨ev, ge⟩ := HT0.out.err.x3
      have lo : 6 < w.heap.size := Nat.lt_of_lt_of_le (Nat.lt_of_lt_of_le (by decide) HT0.out.err.lG) (Nat.le_trans hbt (Nat.le_of_lt ht0))
      obtain ⟨u0, k0⟩ := HR0.out.c0
      obtain ⟨u1, k1⟩ := HR0.out.c1
      have f0 := HR0.out.f0
      have ge1 : (W.setCell ⟨w.heap.size, 0, none⟩ (.map none)).cell? ⟨6, 0, none⟩ = some (.iface 233 ev) := by rw [World.cell?_setCell_far _ _ _ _ (by simp; omega)]; exact ge
      have ge2 : ((W.setCell ⟨w.heap.size, 0, none⟩ (.map none)).setCell ⟨w.heap.size, 1, none⟩ (.map none)).cell? ⟨6, 0, none⟩ = some (.iface 233 ev) := by rw [World.cell?_setCell_far _ _ _ _ (by simp; omega)]; exact ge1
      clear lo hk h3 hrec hT hS HCase
      go_enter Tryz.func51, Tryz.ntmps51
      go_wp2_with fail
      try rw [hW]
      go_region
      all_goals go_wp2_with fail
      all_goals (
        obtain ⟨Z, hZ, q0, q1, gZ, bZ, _⟩ := HR0.out.fill HG0.out hww none none
        rw [← hZ]
        clear hZ
        refine bodyPost_ret (v := .tuple #[.agg #[.map none, .map none], .iface 233 ev]) (by simp [results, Tryz.results51, go_sem, q0, q1]) rfl ?_
        rw [← HP.out]
        exact ⟨gZ.trans (G2.below (Below.refl _ _).drew), .inr ⟨HN.out, _, _, rfl⟩⟩)
end Go.Proofs.YtakmpmhjcngbbaaGreatDoor
