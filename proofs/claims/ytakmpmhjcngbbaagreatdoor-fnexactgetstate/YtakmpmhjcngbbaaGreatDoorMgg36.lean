import Derived.Test.YtakmpmhjcngbbaaGreatDoorMgg32
import Derived.Test.YtakmpmhjcngbbaaGreatDoorMgg33
import Derived.Test.YtakmpmhjcngbbaaGreatDoorMgg35
import Derived.Test.YtakmpmhjcngbbaaGreatDoorMgg10
import Derived.Test.YtakmpmhjcngbbaaGreatDoorMgg13
import Derived.Test.YtakmpmhjcngbbaaGreatDoorMgg09
import Derived.Test.YtakmpmhjcngbbaaGreatDoorMgg26
set_option linter.unusedVariables false
set_option linter.unusedSimpArgs false
set_option maxRecDepth 100000
set_option maxHeartbeats 40000000
namespace Go.Proofs.YtakmpmhjcngbbaaGreatDoor
open Go.ChangeShapes Go.WideShapes Go.ChangeAt Go.RowKit
theorem jdot_at {w : World} {B g m cap : Nat} {ts : List Dt} (h : w.ownsRow B 87 2 (.slice (some ⟨g, 0, none⟩) m cap) m (Ds.kRow ts)) (hl : ts.length = m) : ∀ i, i < m → ∃ d, ts[i]? = some d ∧ w.cell? ⟨g, i * 2, none⟩ = some (.int .i64 d.1) ∧ w.cell? ⟨g, i * 2 + 1, none⟩ = some (.int .i64 d.2) := by
  rcases h.2 with ⟨h0, _⟩ | ⟨g', cap', cur, hv, hbase, hb, h1, h2, h3, h4⟩
  · cases h0
  · cases hv
    intro i hi
    have hi' : i < ts.length := by omega
    have e0 : ts.toArray[i]! = ts[i] := by rw [getElem!_pos _ _ (by simpa using hi')]; simp
    refine ⟨ts[i], by simp [hi'], ?_, ?_⟩
    · have e1 : (cur.toList.take (m * 2))[i * 2]? = (Ds.kRow ts)[i * 2]? := by rw [h4]
      rw [List.getElem?_take_of_lt (by omega), Ds.kRow_get ts (i * 2) (by omega)] at e1
      rw [show i * 2 / 2 = i by omega, show i * 2 % 2 = 0 by omega, e0] at e1
      simp [World.cell?, hb, ← Array.getElem?_toList, e1, Ds.kCells]
    · have e1 : (cur.toList.take (m * 2))[i * 2 + 1]? = (Ds.kRow ts)[i * 2 + 1]? := by rw [h4]
      rw [List.getElem?_take_of_lt (by omega), Ds.kRow_get ts (i * 2 + 1) (by omega)] at e1
      rw [show (i * 2 + 1) / 2 = i by omega, show (i * 2 + 1) % 2 = 1 by omega, e0] at e1
      simp [World.cell?, hb, ← Array.getElem?_toList, e1, Ds.kCells]
theorem jdseg {w : World} {B : Nat} {v : Value} {ts : List Dt} (h : w.ownsRow B 87 2 v ts.length (Ds.kRow ts)) : ∃ a cap, v = .slice a ts.length cap ∧ ts.length ≤ cap ∧ cap ≤ 9223372036854775807 ∧ (0 < ts.length → ∃ g, a = some ⟨g, 0, none⟩ ∧ B ≤ g ∧ g < w.heap.size ∧ ∀ i, i < ts.length → ∃ d, ts[i]? = some d ∧ w.cell? ⟨g, i * 2, none⟩ = some (.int .i64 d.1) ∧ w.cell? ⟨g, i * 2 + 1, none⟩ = some (.int .i64 d.2)) := by
  rcases h.2 with ⟨rfl, h0⟩ | ⟨g, cap, cur, rfl, hbase, hb, h1, h2, h3, h4⟩
  · exact ⟨none, 0, by rw [h0], by omega, by omega, fun hh => by omega⟩
  · exact ⟨_, cap, rfl, h1, by unfold maxLen at h2; omega, fun _ => ⟨g, rfl, hbase, (Array.getElem?_eq_some_iff.1 hb).1, jdot_at h rfl⟩⟩
theorem jkey_at {w : World} {B g m cap : Nat} {ts : List Ky} (h : w.ownsRow B 110 2 (.slice (some ⟨g, 0, none⟩) m cap) m (kRow ts)) (hl : ts.length = m) : ∀ i, i < m → ∃ d, ts[i]? = some d ∧ w.cell? ⟨g, i * 2, none⟩ = some (.string d.1) ∧ w.cell? ⟨g, i * 2 + 1, none⟩ = some (.int .i64 d.2) := by
  rcases h.2 with ⟨h0, _⟩ | ⟨g', cap', cur, hv, hbase, hb, h1, h2, h3, h4⟩
  · cases h0
  · cases hv
    intro i hi
    have hi' : i < ts.length := by omega
    have e0 : ts.toArray[i]! = ts[i] := by rw [getElem!_pos _ _ (by simpa using hi')]; simp
    refine ⟨ts[i], by simp [hi'], ?_, ?_⟩
    · have e1 : (cur.toList.take (m * 2))[i * 2]? = (kRow ts)[i * 2]? := by rw [h4]
      rw [List.getElem?_take_of_lt (by omega), kRow_get ts (i * 2) (by omega)] at e1
      rw [show i * 2 / 2 = i by omega, show i * 2 % 2 = 0 by omega, e0] at e1
      simp [World.cell?, hb, ← Array.getElem?_toList, e1, kCells]
    · have e1 : (cur.toList.take (m * 2))[i * 2 + 1]? = (kRow ts)[i * 2 + 1]? := by rw [h4]
      rw [List.getElem?_take_of_lt (by omega), kRow_get ts (i * 2 + 1) (by omega)] at e1
      rw [show (i * 2 + 1) / 2 = i by omega, show (i * 2 + 1) % 2 = 1 by omega, e0] at e1
      simp [World.cell?, hb, ← Array.getElem?_toList, e1, kCells]
theorem jkseg {w : World} {B : Nat} {v : Value} {ts : List Ky} (h : w.ownsRow B 110 2 v ts.length (kRow ts)) : ∃ a cap, v = .slice a ts.length cap ∧ ts.length ≤ cap ∧ cap ≤ 9223372036854775807 ∧ (0 < ts.length → ∃ g, a = some ⟨g, 0, none⟩ ∧ B ≤ g ∧ g < w.heap.size ∧ ∀ i, i < ts.length → ∃ d, ts[i]? = some d ∧ w.cell? ⟨g, i * 2, none⟩ = some (.string d.1) ∧ w.cell? ⟨g, i * 2 + 1, none⟩ = some (.int .i64 d.2)) := by
  rcases h.2 with ⟨rfl, h0⟩ | ⟨g, cap, cur, rfl, hbase, hb, h1, h2, h3, h4⟩
  · exact ⟨none, 0, by rw [h0], by omega, by omega, fun hh => by omega⟩
  · exact ⟨_, cap, rfl, h1, by unfold maxLen at h2; omega, fun _ => ⟨g, rfl, hbase, (Array.getElem?_eq_some_iff.1 hb).1, jkey_at h rfl⟩⟩
theorem jnx_kind {p : List ByteArray} {x : Lf} {y : Ky} (hx : LfOk1 x) (h : nx p x = some y) : (y.2 = 1 ∨ y.2 = 2) ∨ (y.2 = 3 ∧ p.length + 2 ≤ 8) := by
  rw [nx_some] at h
  obtain ⟨⟨_, hl⟩, e⟩ := h
  have e1 := congrArg Prod.snd e
  unfold onWay at e1
  dsimp only at e1
  by_cases h2 : p.length + 1 < x.p.length
  · rw [if_pos h2] at e1
    have := hx.1.2.1
    exact .inr ⟨e1.symm, by omega⟩
  · rw [if_neg h2] at e1
    rcases kd_or x.fl with k | k <;> rw [k] at e1
    · exact .inl (.inl e1.symm)
    · exact .inl (.inr e1.symm)
theorem TJ.nki {w : World} {B : Nat} {J : List Lf} {N : List Ky → Option (Nat × Nat)} {c : Nat} (h : TJ w B J N c) (h0 : N [] ≠ none) : NkI J J.length N := fun z => by
  by_cases e : z = []
  · rw [e]
    refine ⟨fun _ => .inl rfl, fun _ => ?_⟩
    cases hv : N [] with
    | none => exact absurd hv h0
    | some v => rfl
  · obtain ⟨u, y, rfl⟩ : ∃ u y, z = u ++ [y] := ⟨z.dropLast, z.getLast e, (List.dropLast_concat_getLast e).symm⟩
    rw [h.there u y]
    constructor
    · rintro ⟨x, hx, hp⟩
      obtain ⟨j, hj, ej⟩ := gL_mem.1 hx
      exact .inr ⟨j, hj, by rw [ej]; exact hp⟩
    · rintro (h1 | ⟨j, hj, hp⟩)
      · exact absurd h1 e
      · exact ⟨gL J j, gL_mem.2 ⟨j, hj, rfl⟩, hp⟩
theorem mark_map (l : List Lf) (p : List ByteArray) (s : ByteArray) (d : Dt) : Mk l l.length (wayOf p 3 ++ [(s, 3)]) d = none := by
  refine Classical.byContradiction fun hn => ?_
  obtain ⟨j, hj, e, _⟩ := Mk_ne.1 hn
  rw [← way_snoc] at e
  have := (wayOf_inj e.symm (by simp)).2
  rcases kd_or (gL l j).fl with h | h <;> omega
theorem no_kids {l : List Lf} {N : List Ky → Option (Nat × Nat)} (hN : NkI l l.length N) (p : List ByteArray) (y u : Ky) (hy : y.2 ≠ 3) : N (wayOf p 3 ++ [y] ++ [u]) = none := by
  cases hv : N (wayOf p 3 ++ [y] ++ [u]) with
  | none => rfl
  | some v =>
    exfalso
    have h1 : (N (wayOf p 3 ++ [y] ++ [u])).isSome = true := by rw [hv]; rfl
    rcases (hN _).1 h1 with h | ⟨j, hj, hp⟩
    · simp at h
    · have hl := hp.length_le
      simp only [List.length_append, List.length_singleton, wayOf_len, Way] at hl
      have h2 : (Way (gL l j))[p.length]? = some y := by
        obtain ⟨t, ht⟩ := hp
        rw [← ht]
        simp [wayOf_len]
      unfold Way at h2
      rw [wayOf_get (by omega), if_pos (by omega)] at h2
      have h3 := congrArg Prod.snd (Option.some.inj h2)
      exact hy h3.symm
noncomputable def gK (l : List Lf) (f : Nat) (p : List ByteArray) (y : Ky) : List Lf := if y.2 = 3 then wL l f (p ++ [y.1]) else dsK l p y l.length
theorem wL_gK (l : List Lf) (f : Nat) (p : List ByteArray) : wL l (f + 1) p = (kS l p l.length).flatMap (gK l f p) := rfl
theorem jflat_take {α : Type} (g : α → List Lf) (ts : List α) (k : Nat) : ((ts.take k).flatMap g).length ≤ (ts.flatMap g).length := by
  have : ts.flatMap g = (ts.take k).flatMap g ++ (ts.drop k).flatMap g := by rw [← List.flatMap_append, List.take_append_drop]
  rw [this, List.length_append]; omega
theorem appendLeaves0 (Bt c : Nat) (N : List Ky → Option (Nat × Nat)) (M : List Ky → Dt → Option ByteArray) (z : List Ky) (w : World) (hT : Tre w Bt N M c) (hc : c ≤ 1048576) (hz : ∀ u, N (z ++ [u]) = none) (bv vw : Value) :
    Calls Tryz.prog 31 #[.agg #[.map (mF (N z)), .map (mS (N z))], bv, vw] w fun e w' => e = .returned bv ∧ Below w.heap.size w w' := by
  obtain ⟨W, hW⟩ : ∃ W, w.alloc (.cells #[.map (mF (N z)), .map (mS (N z))] 47) = W := ⟨_, rfl⟩
  have b0 : Below w.heap.size w W := by rw [← hW]; exact (Below.refl _ _).alloc (Nat.le_refl _) _
  have X0 : Bx2 W w.heap.size (.map (mF (N z))) (.map (mS (N z))) := by rw [← hW]; exact Bx2.made _ _ _ _
  have HSD := hid (sortedKeysC Bt c N M z W (hT.below b0) hc)
  obtain ⟨m0, hu0⟩ : ∃ u, mF (N z) = u := ⟨_, rfl⟩
  obtain ⟨m1, hu1⟩ : ∃ u, mS (N z) = u := ⟨_, rfl⟩
  rw [hu0, hu1] at X0 HSD hW
  rw [hu0, hu1]
  have k0 := X0.c0
  have k1 := X0.c1
  have HB0 := hid b0
  have HZ := hid hz
  clear X0 b0 hT hu0 hu1 hz
  go_enter Tryz.func31, Tryz.ntmps31
  go_wp2_with fail
  try rw [hW]
  clear hW
  refine HSD.out.mono ?_
  rintro e w1 ⟨vd, ts, rfl, hts1, hts2, htl, hod, b1⟩
  obtain rfl : ts = [] := List.eq_nil_iff_forall_not_mem.2 fun x hx => (hts2 x).1 hx (by unfold kidsF; exact HZ.out x)
  obtain ⟨da, dc, rfl, hdc1, hdc2, hdr⟩ := jkseg hod
  have HB1 := hid (keepS HB0.out b1)
  simp only [List.length_nil] at hdc1 ⊢
  clear hts1 hts2 htl hod b1 hdr k0 k1 HSD
  go_wp2_with fail
  refine wp_loop_rounds 1 ?_; rw [rounds_succ]; go_wp2_with fail
  go_ret
  exact ⟨rfl, HB1.out⟩
theorem appendLeavesN {R F T : Nat → Int} {n : Nat} (l : List Lf) (w0 : World) (Bt c : Nat) (N : List Ky → Option (Nat × Nat)) (hT : Tre w0 Bt N (Mk l l.length) c) (hN : NkI l l.length N) (hc : c ≤ 1048576) (hlv : LvOk R F T n l l.length) (hbd : LvB l) : ∀ (f : Nat) (p : List ByteArray), p.length + f = 8 → 1 ≤ f → ∀ (bv : Value) (l0 : List Lf) (vw : Value) (w : World), Below w0.heap.size w0 w → LB w w0.heap.size bv l0 → PWay w vw p → (∀ g, vw.ownBlock = some g → bv.ownBlock ≠ some g) → l0.length + (wL l f p).length ≤ 1000000 →
    Calls Tryz.prog 31 #[.agg #[.map (mF (N (wayOf p 3))), .map (mS (N (wayOf p 3)))], bv, vw] w fun e w' => ∃ v, e = .returned v ∧ LB w' w0.heap.size v (l0 ++ wL l f p) ∧ Gr w w' bv v
  | 0, _, _, h1, _, _, _, _, _, _, _, _, _ => by omega
  | f + 1, p, hpf, _, bv, l0, vw, w, hb, ho, hvw, hne, hl => by
    obtain ⟨k1, k2⟩ := kS_ok p hlv l.length (Nat.le_refl _)
    rw [wL_gK] at hl ⊢
    have HIH : Hid (∀ s, p.length + 2 ≤ 8 → ∀ (bv : Value) (l0 : List Lf) (vw : Value) (w : World), Below w0.heap.size w0 w → LB w w0.heap.size bv l0 → PWay w vw (p ++ [s]) → (∀ g, vw.ownBlock = some g → bv.ownBlock ≠ some g) → l0.length + (wL l f (p ++ [s])).length ≤ 1000000 → Calls Tryz.prog 31 #[.agg #[.map (mF (N (wayOf p 3 ++ [(s, 3)]))), .map (mS (N (wayOf p 3 ++ [(s, 3)])))], bv, vw] w fun e w' => ∃ v, e = .returned v ∧ LB w' w0.heap.size v (l0 ++ wL l f (p ++ [s])) ∧ Gr w w' bv v) := hid (fun s hp2 bv l0 vw w h1 h2 h3 h4 h5 => by
      rw [← way_snoc]
      exact appendLeavesN l w0 Bt c N hT hN hc hlv hbd f (p ++ [s]) (by simp; omega) (by omega) bv l0 vw w h1 h2 h3 h4 h5)
    obtain ⟨W, hW⟩ : ∃ W, w.alloc (.cells #[.map (mF (N (wayOf p 3))), .map (mS (N (wayOf p 3)))] 47) = W := ⟨_, rfl⟩
    have b0 : Below w.heap.size w W := by rw [← hW]; exact (Below.refl _ _).alloc (Nat.le_refl _) _
    have X0 : Bx2 W w.heap.size (.map (mF (N (wayOf p 3)))) (.map (mS (N (wayOf p 3)))) := by rw [← hW]; exact Bx2.made _ _ _ _
    have zW : W.heap.size = w.heap.size + 1 := by rw [← hW]; simp
    have hbW : Below w0.heap.size w0 W := hb.trans (b0.mono hb.size)
    have HSD := hid (sortedKeysC Bt c N (Mk l l.length) (wayOf p 3) W (hT.below hbW) hc)
    obtain ⟨m0, hm0⟩ : ∃ u, mF (N (wayOf p 3)) = u := ⟨_, rfl⟩
    obtain ⟨m1, hm1⟩ : ∃ u, mS (N (wayOf p 3)) = u := ⟨_, rfl⟩
    rw [hm0, hm1] at X0 HSD hW
    rw [hm0, hm1]
    have q0 := X0.c0
    have q1 := X0.c1
    have HX := hid X0
    have HB0 := hid b0
    have HBW := hid hbW
    have HO := hid (ho.below b0)
    have HPW := hid (hvw.below b0)
    have HT := hid hT
    have HNK := hid hN
    have HM0 := hid hm0
    have HNE := hid hne
    have HVL : Hid (∀ g, vw.ownBlock = some g → g < w.heap.size) := hid hvw.lt
    have HOlt : Hid (∀ g, bv.ownBlock = some g → w0.heap.size ≤ g ∧ g < w.heap.size) := hid ho.lt
    have HK2 := hid k2
    have HLL := hid hl
    have HZW := hid zW
    have HZ0 : Hid (w0.heap.size ≤ w.heap.size) := hid hb.size
    clear X0 b0 hbW ho hm0 hm1 k1 k2 hvw hne hl zW hb hN
    go_enter Tryz.func31, Tryz.ntmps31
    go_wp2_with fail
    try rw [hW]
    clear hW
    refine HSD.out.mono ?_
    rintro e w1 ⟨vd, ts, rfl, hts1, hts2, htl, hod, b1⟩
    have hkt := kS_tree (p := p) hlv HNK.out hts1 hts2
    obtain ⟨da, dc, rfl, hdc1, hdc2, hdr⟩ := jkseg hod
    have hlen : ts.length ≤ 1000 := by rw [hkt]; have := kS_len l p l.length; have := hbd.len; omega
    have HD : Hid (0 < ts.length → ∃ g, da = some ⟨g, 0, none⟩ ∧ W.heap.size ≤ g ∧ g < w1.heap.size ∧ ∀ i, i < ts.length → ∃ y ∈ ts, ts[i]? = some y ∧ w1.cell? ⟨g, i * 2, none⟩ = some (.string y.1) ∧ w1.cell? ⟨g, i * 2 + 1, none⟩ = some (.int .i64 y.2)) := hid (fun h0 => by
      obtain ⟨g, e1, e2, e3, e4⟩ := hdr h0
      refine ⟨g, e1, e2, e3, fun i hi => ?_⟩
      obtain ⟨d, f1, f2, f3⟩ := e4 i hi
      exact ⟨d, List.mem_of_getElem? f1, f1, f2, f3⟩)
    have HKx : Hid (∀ y ∈ ts, y.1.size ≤ 40 ∧ ((y.2 = 1 ∨ y.2 = 2) ∨ (y.2 = 3 ∧ p.length + 2 ≤ 8))) := hid (fun y hy => by
      rw [hkt] at hy
      obtain ⟨j, hj, e⟩ := (HK2.out y).1 hy
      exact ⟨nx_name (hlv j hj).1 e, jnx_kind (hlv j hj).1 e⟩)
    have HTS : Hid (kS l p l.length = ts) := hid hkt.symm
    rw [← hkt] at HLL
    have HLK : Hid (∀ y ∈ ts, ∀ w', Below w0.heap.size w0 w' → (Instr.lookup 44 (.map m0) (.agg #[.string y.1, .int .i64 y.2]) false).run Tryz.prog w' = .ok (.agg #[.map (mF (N (wayOf p 3 ++ [y]))), .map (mS (N (wayOf p 3 ++ [y])))]) w') := hid (fun y hy w' hb' => by
      have hl := HKx.out y hy
      obtain ⟨kl, hkl⟩ := keyKey (s := y.1) (k := y.2) (by unfold maxLen; omega) (wfI (by omega) (by omega))
      have := (HT.out.below hb').look (wayOf p 3) y hkl
      rw [HM0.out] at this
      exact this)
    have X1 := HX.out.below b1 HX.out.lt
    have HX1 := hid X1
    have HO1 := hid (HO.out.below b1)
    have HPW1 := hid (HPW.out.below b1)
    have HB1 := hid (HBW.out.trans (b1.mono HBW.out.size))
    have HB01 := hid (keepS HB0.out b1)
    have HSz : Hid (w0.heap.size ≤ w1.heap.size ∧ w.heap.size < w1.heap.size) := hid (by have h1 := HB1.out.size; have h2 := b1.size; have h3 := HZW.out; omega)
    clear q0 q1 hod hts1 hts2 htl hdr hkt b1 HSD X1 HX HO HBW HPW
    go_wp2_with fail
    go_loopw [1, 16] (fun b' i wr => ∃ (k : Nat), k ≤ ts.length ∧ i = .int .i64 k ∧ Hid (LB wr w0.heap.size b' (l0 ++ (ts.take k).flatMap (gK l f p))) ∧ Hid (Gr w1 wr bv b')) (fun _ i _ => ts.length - (intOf i).toNat)
    case atStart => exact ⟨0, Nat.zero_le _, rfl, hid (by simpa using HO1.out), hid (Gr.refl _ _)⟩
    case round =>
      clear HO1
      obtain ⟨k, hk, rfl, HOk, HGk⟩ := hrel
      by_cases hlt : k < ts.length
      · obtain ⟨g, rfl, hg1, hg2, hgc⟩ := HD.out (by omega)
        obtain ⟨y, hym, hyk, hc1, hc2⟩ := hgc k hlt
        have hgne : some g ≠ bv.ownBlock := fun e => by have h1 := (HOlt.out g e.symm).2; have h2 := HZW.out; omega
        have hbne : some w.heap.size ≠ bv.ownBlock := fun e => by have := (HOlt.out _ e.symm).2; omega
        have c1 := HGk.out.g.cell hc1 hgne
        have c2 := HGk.out.g.cell hc2 hgne
        have n0 := HGk.out.g.cell HX1.out.c0 hbne
        have hyb := HKx.out y hym
        have HBR : Hid (Below w0.heap.size w0 wr) := hid (HB1.out.trans (HGk.out.below HSz.out.1 (fun k hk => (HOlt.out k hk).1)))
        have HPR : Hid (PWay wr vw p) := hid (HPW1.out.move HGk.out.g.size (fun g hg => HGk.out.g.block g (by have h1 := HVL.out g hg; have h2 := HSz.out.2; omega) (fun e => HNE.out g hg e.symm)))
        have HUL : Hid (∀ g, u1.ownBlock = some g → w0.heap.size ≤ g ∧ g < wr.heap.size) := hid HOk.out.lt
        have HTK : Hid ((ts.take (k + 1)).flatMap (gK l f p) = (ts.take k).flatMap (gK l f p) ++ gK l f p y) := hid (by rw [List.take_add_one, hyk]; simp)
        have HZL : Hid ((l0 ++ (ts.take k).flatMap (gK l f p)).length + (gK l f p y).length ≤ 1000000) := hid (by
          have h1 := jflat_take (gK l f p) ts (k + 1)
          rw [HTK.out, List.length_append] at h1
          have h2 := HLL.out
          simp only [List.length_append] at h2 ⊢
          omega)
        obtain ⟨L0, hL0⟩ : ∃ L0, l0 ++ (ts.take k).flatMap (gK l f p) = L0 := ⟨_, rfl⟩
        have HLKy : Hid (∀ w', Below w0.heap.size w0 w' → (Instr.lookup 44 (.map m0) (.agg #[.string y.1, .int .i64 y.2]) false).run Tryz.prog w' = .ok (.agg #[.map (mF (N (wayOf p 3 ++ [y]))), .map (mS (N (wayOf p 3 ++ [y])))]) w') := hid (fun w' h => HLK.out y hym w' h)
        obtain ⟨ls, rec, hlr, hls3, hls, hrec⟩ : ∃ ls rec : List Lf, gK l f p y = ls ++ rec ∧ (∀ ts2 : List Dt, ts2.Pairwise (fun x y => cmpDt x y < 0) → (∀ d, d ∈ ts2 ↔ Mk l l.length (wayOf p 3 ++ [y]) d ≠ none) → ts2 = ls.map fun x => ((x.r, x.q) : Dt)) ∧ (∀ x ∈ ls, x = ⟨p ++ [y.1], decide (y.2 = 2), x.r, x.q, x.v⟩ ∧ Mk l l.length (wayOf p 3 ++ [y]) (x.r, x.q) = some x.v ∧ (0 ≤ x.r ∧ x.r < 8) ∧ (0 ≤ x.q ∧ x.q ≤ 1000000000)) ∧
            (∀ (bv : Value) (l0 : List Lf) (vw : Value) (w : World), Below w0.heap.size w0 w → LB w w0.heap.size bv l0 → PWay w vw (p ++ [y.1]) → (∀ g, vw.ownBlock = some g → bv.ownBlock ≠ some g) → l0.length + rec.length ≤ 1000000 → Calls Tryz.prog 31 #[.agg #[.map (mF (N (wayOf p 3 ++ [y]))), .map (mS (N (wayOf p 3 ++ [y])))], bv, vw] w fun e w' => ∃ v, e = .returned v ∧ LB w' w0.heap.size v (l0 ++ rec) ∧ Gr w w' bv v) := by
          rcases hyb.2 with h12 | ⟨h3, hp2⟩
          · have hy3 : y.2 ≠ 3 := by omega
            refine ⟨dsK l p y l.length, [], by unfold gK; rw [if_neg hy3, List.append_nil], fun ts2 h1 h2 => dots_tree hlv hy3 h1 h2, fun x hx => ?_, fun bv l0 vw w h1 h2 h3 h4 h5 => ?_⟩
            · have hv := mark_tree hy3 hbd.dis hx
              obtain ⟨j, hj, e, rfl⟩ := dsK_mem.1 hx
              have hp := nx_leaf_path hy3 e
              refine ⟨?_, hv, hbd.rep j hj, hbd.seq j hj⟩
              obtain ⟨x, hx⟩ : ∃ x, gL l j = x := ⟨_, rfl⟩
              rw [hx] at hp ⊢
              obtain ⟨xp, xf, xr, xq, xv⟩ := x
              have e1 : xp = p ++ [y.1] := hp.1
              have e2 : kd xf = y.2 := hp.2
              have e3 : xf = decide (y.2 = 2) := by rw [← e2]; cases xf <;> simp [kd]
              rw [← e1, ← e3]
            · refine (appendLeaves0 Bt c N (Mk l l.length) (wayOf p 3 ++ [y]) w (HT.out.below h1) hc (fun u => no_kids HNK.out p y u hy3) bv vw).mono ?_
              rintro e w' ⟨rfl, b⟩
              exact ⟨bv, rfl, by rw [List.append_nil]; exact h2.below b, Gr.of_below b⟩
          · obtain ⟨s, Y⟩ := y
            have h3 : Y = 3 := h3
            subst h3
            refine ⟨[], wL l f (p ++ [s]), by unfold gK; rw [if_pos rfl, List.nil_append], fun ts2 h1 h2 => ?_, fun x hx => (by cases hx), HIH.out s hp2⟩
            exact List.eq_nil_iff_forall_not_mem.2 fun d hd => (h2 d).1 hd (mark_map l p s d)
        have HL3 := hid hls3
        have HLS := hid hls
        have HRC := hid hrec
        have HMT : Hid (∀ w', Below w0.heap.size w0 w' → ∀ x ∈ ls, (Instr.lookup 45 (.map (mS (N (wayOf p 3 ++ [y])))) (.agg #[.int .i64 x.r, .int .i64 x.q]) false).run Tryz.prog w' = .ok (.agg #[.string x.v]) w') := hid (fun w' hb' x hx => by
          have hv := HLS.out x hx
          have T' := HT.out.below hb'
          cases e : N (wayOf p 3 ++ [y]) with
          | none => have h := hv.2.1; rw [T'.none' _ e] at h; cases h
          | some x1 =>
            obtain ⟨kl, hkl⟩ := dotKey (r := x.r) (q := x.q) (wfI (by omega) (by omega)) (wfI (by omega) (by omega))
            have := (T'.marks _ x1 e).look dotKeyed Tryz.underlying45 (zeroMark w') (x := (x.r, x.q)) hkl
            rw [hv.2.1] at this
            exact this)
        have HSDT : Hid (∀ w', Below w0.heap.size w0 w' → Calls Tryz.prog 54 #[.agg #[.map (mF (N (wayOf p 3 ++ [y]))), .map (mS (N (wayOf p 3 ++ [y])))]] w' fun e w'' => ∃ (v : Value) (ts : List Dt), e = .returned v ∧ ts = (ls.map fun x => ((x.r, x.q) : Dt)) ∧ w''.ownsRow w'.heap.size 87 2 v ts.length (Ds.kRow ts) ∧ Below w'.heap.size w' w'') := hid (fun w' hb' => by
          refine (Ds.sortedDotsC Bt c N (Mk l l.length) (wayOf p 3 ++ [y]) w' (HT.out.below hb') hc).mono ?_
          rintro e w'' ⟨v, ts2, rfl, h1, h2, _, h4, h5⟩
          exact ⟨v, ts2, rfl, HL3.out ts2 h1 h2, h4, h5⟩)
        obtain ⟨a1, ha1⟩ : ∃ a1, mF (N (wayOf p 3 ++ [y])) = a1 := ⟨_, rfl⟩
        obtain ⟨a2, ha2⟩ : ∃ a2, mS (N (wayOf p 3 ++ [y])) = a2 := ⟨_, rfl⟩
        rw [ha1, ha2] at HLKy HRC HSDT
        rw [ha2] at HMT
        rw [hlr] at HTK HZL
        rw [hL0] at HZL HOk
        have HFIN : Hid (l0 ++ (ts.take (k + 1)).flatMap (gK l f p) = L0 ++ (ls ++ rec)) := hid (by rw [HTK.out, ← hL0]; simp)
        obtain ⟨s, Y⟩ := y
        dsimp only at c1 c2 hyb HLKy HMT HRC HLS
        have HSS : Hid (s.size ≤ 40) := hid hyb.1
        obtain ⟨W1, hW1⟩ : ∃ W1, wr.alloc (.cells #[.string s, .int .i64 Y] 110) = W1 := ⟨_, rfl⟩
        have D1 : Bx2 W1 wr.heap.size (.string s) (.int .i64 Y) := by rw [← hW1]; exact Bx2.made _ _ _ _
        have bW1 : Below wr.heap.size wr W1 := by rw [← hW1]; exact (Below.refl _ _).alloc (Nat.le_refl _) _
        obtain ⟨W2, hW2⟩ : ∃ W2, W1.alloc (.cells #[.map a1, .map a2] 47) = W2 := ⟨_, rfl⟩
        have bW2 : Below W1.heap.size W1 W2 := by rw [← hW2]; exact (Below.refl _ _).alloc (Nat.le_refl _) _
        have HKD2 : Hid (Bx2 W2 W1.heap.size (.map a1) (.map a2)) := hid (by rw [← hW2]; exact Bx2.made _ _ _ _)
        have HD2 := hid (D1.below bW2 D1.lt)
        have HB2 := hid (keepS bW1 bW2)
        have HBR2 : Hid (Below w0.heap.size w0 W2) := hid (HBR.out.trans (HB2.out.mono HBR.out.size))
        have HPR2 := hid (HPR.out.below HB2.out)
        have HZ1 : Hid (wr.heap.size < W1.heap.size ∧ W1.heap.size < W2.heap.size) := hid ⟨D1.lt, HKD2.out.lt⟩
        have HCL : Hid (∀ w', Below W2.heap.size W2 w' → Calls Tryz.prog 53 #[vw] w' fun e w'' => ∃ v, e = .returned v ∧ Below w'.heap.size w' w'' ∧ w''.ownsRow w'.heap.size 9 1 v p.length (sRow p)) := hid (fun w' hb' => cloneW vw p w' (by omega) (HPR2.out.below hb'))
        have q0 := D1.c0
        have q1 := D1.c1
        have n01 := (bW1.cell (p := ⟨w.heap.size, 0, none⟩) (by have h1 := HSz.out.2; have h2 := HGk.out.g.size; show w.heap.size < wr.heap.size; omega)).trans n0
        have hlk := HLKy.out W1 (HBR.out.trans (bW1.mono HBR.out.size))
        have HSE : Hid (∀ w', Below W2.heap.size W2 w' → w'.cell? ⟨wr.heap.size, 0, none⟩ = some (.string s)) := hid (fun w' b => (HD2.out.below b HD2.out.lt).c0)
        clear D1 bW1 bW2 hc1 hc2 hgc hym hyk hbne hgne hls hls3 hrec hlr hL0 ha1 ha2 HLKy HTK
        go_wp2_with fail
        refine wp_region_held_drew (S := fun w' => w'.cell? ⟨wr.heap.size, 0, none⟩ = some (.string s)) (by kernel_rfl) (HSE.out _ (Below.refl _ _).drew) (fun hHeld => ?_)
        clear q0 q1 n01 hlk n0 c1 c2 hW1 hW2
        refine tk 0 24 ?_ (by kernel_rfl) (fun _ _ _ h => h) ?_ hHeld (tk 2 26 ?_ (by kernel_rfl) (fun _ _ _ h => h) ?_ hHeld (tk 3 27 ?_ (by kernel_rfl) (fun _ _ _ h => h) ?_ hHeld ?_))
        iterate 3 (rotate_left; focus (intro o ho; simp only [gZa, gZb, gZc, gZd] at ho; subst ho; refine Or.inl ⟨by rfl, ?_⟩; intro w hSw; (try dsimp only at hSw); (try simp only [Act.put, sZa, sZb, sZc]); go_simp; try with_reducible rfl))
        try simp only [Act.put, sZa, sZb, sZc]
        refine ready2t (i := 1) (j := 4) (d := some 25) (d' := some 28) (by kernel_rfl) (by kernel_rfl) (by kernel_rfl) ?_ ?_
        ·
          intro o ho hod K hK; simp only [gZa, gZb, gZc, gZd] at ho; subst ho
          go_simp
          refine (HCL.out _ (Below.refl _ _).drew).mono ?_
          rintro e w3 ⟨v3, rfl, b3, o3⟩
          have b3' : Below W2.heap.size W2 w3 := ⟨b3.os, b3.tape, b3.output, b3.size, b3.block⟩
          refine hK.out _ _ (HSE.out _ b3') (fun hHeld => ?_)
          clear hK K
          try simp only [Act.put, sZa, sZb, sZc]
          refine call1 (i := 4) (d := some 28) (by kernel_rfl) (by kernel_rfl) ?_
          intro o ho hod K hK; simp only [gZa, gZb, gZc, gZd] at ho; subst ho
          go_simp
          have b4' : Below W2.heap.size W2 (w3.alloc (.cells #[.string s] 9)) := b3'.alloc b3'.size _
          refine hK.out _ _ (HSE.out _ b4') (fun hHeld => ?_)
          clear hK K
          try simp only [Act.put, sZa, sZb, sZc]
          have o4 : (w3.alloc (.cells #[.string s] 9)).ownsRow W2.heap.size 9 1 v3 p.length (sRow p) := World.ownsRow.alloc o3 _
          obtain ⟨pq, pcap, w5, happ, o5, g5, hq5⟩ := pthApp o4 b4'.size (by omega) s w3.heap.size (by simp)
          have b5' : Below W2.heap.size W2 w5 := b4'.grown g5 b4'.size (fun k e => (World.ownsRow.lt o4 k e).1)
          refine call1 (i := 5) (d := some 29) (by kernel_rfl) (by kernel_rfl) ?_
          intro o ho hod K hK; simp only [gZa, gZb, gZc, gZd] at ho; subst ho
          refine wp_app2 _ _ _ _ rfl happ (by rfl) (by rfl) rfl ?_
          refine hK.out _ _ (HSE.out _ b5') (fun hHeld => ?_)
          clear hK K
          try simp only [Act.put, sZa, sZb, sZc]
          refine tk 6 10 ?_ (by kernel_rfl) (fun _ _ _ h => h) ?_ hHeld ?_
          rotate_left
          · (intro o ho; simp only [gZa, gZb, gZc, gZd] at ho; subst ho; refine Or.inl ⟨by rfl, ?_⟩; intro w hSw; (try dsimp only at hSw); go_simp; try with_reducible rfl)
          try simp only [Act.put, sZa, sZb, sZc]
          refine wpAnyH_done (by kernel_rfl) ?_ _
          have HO5 := hid o5
          have HB5 := hid b5'
          clear hHeld b3 b3' b4' o3 o4 o5 g5 b5' happ HSE HCL hq5
          obtain ⟨bu, hbu⟩ : ∃ b, b = u1 := ⟨_, rfl⟩
          subst hbu
          obtain ⟨wq, hwq⟩ : ∃ b, b = wr := ⟨_, rfl⟩
          subst hwq
          have HBR5 : Hid (Below w0.heap.size w0 w5) := hid (HBR2.out.trans (HB5.out.mono HBR2.out.size))
          have K5 := HKD2.out.below HB5.out HKD2.out.lt
          have kc0 := K5.c0
          have kc1 := K5.c1
          have HK5 := hid K5
          have HD5 := hid (HD2.out.below HB5.out HD2.out.lt)
          have HPL : Hid (W2.heap.size ≤ pq ∧ pq < w5.heap.size) := hid (World.ownsRow.lt HO5.out pq rfl)
          clear K5
          go_wp2_with fail
          refine (HSDT.out w5 HBR5.out).mono ?_
          rintro e w6 ⟨vd2, ts2, rfl, hts2, hod2, b6⟩
          obtain ⟨da2, dc2, rfl, hdc21, hdc22, hdr2⟩ := jdseg hod2
          have hte : ts2.length = ls.length := by rw [hts2]; simp
          have HDD : Hid (0 < ls.length → ∃ g2, da2 = some ⟨g2, 0, none⟩ ∧ w5.heap.size ≤ g2 ∧ g2 < w6.heap.size ∧ ∀ i, i < ls.length → ∃ x ∈ ls, ls[i]? = some x ∧ w6.cell? ⟨g2, i * 2, none⟩ = some (.int .i64 x.r) ∧ w6.cell? ⟨g2, i * 2 + 1, none⟩ = some (.int .i64 x.q)) := hid (fun h0 => by
            obtain ⟨g2, e1, e2, e3, e4⟩ := hdr2 (by omega)
            refine ⟨g2, e1, e2, e3, fun i hi => ?_⟩
            obtain ⟨d, f1, f2, f3⟩ := e4 i (by omega)
            rw [hts2] at f1
            simp only [List.getElem?_map, Option.map_eq_some_iff] at f1
            obtain ⟨x, f4, f5⟩ := f1
            subst f5
            exact ⟨x, List.mem_of_getElem? f4, f4, f2, f3⟩)
          rw [hte] at hdc21 ⊢
          have hlsl : ls.length ≤ 1000000 := by have := HZL.out; simp only [List.length_append] at this; omega
          have B26 := keepS HB5.out b6
          have BR6 := keepS HB2.out B26
          have HBR6 := hid BR6
          have HO6 : Hid (LB w6 w0.heap.size bu L0) := hid (HOk.out.below BR6)
          have HP6 : Hid (w6.ownsRow W2.heap.size 9 1 (.slice (some ⟨pq, 0, none⟩) (p.length + 1) pcap) (p.length + 1) (sRow (p ++ [s]))) := hid (own_at5 HO5.out (fun g hg => b6.block g (World.ownsRow.lt HO5.out g hg).2))
          have HD6 := hid (HD5.out.below b6 HD5.out.lt)
          have HK6 := hid (HK5.out.below b6 HK5.out.lt)
          have HBW6 : Hid (Below w0.heap.size w0 w6) := hid (HBR5.out.trans (b6.mono HBR5.out.size))
          have HZ6 : Hid (wq.heap.size < W1.heap.size ∧ W1.heap.size < W2.heap.size ∧ W2.heap.size ≤ w5.heap.size ∧ w5.heap.size ≤ w6.heap.size ∧ w0.heap.size ≤ w6.heap.size) := hid ⟨HZ1.out.1, HZ1.out.2, HB5.out.size, b6.size, HBW6.out.size⟩
          clear hod2 hdr2 hts2 hte b6 B26 BR6 kc0 kc1 HD5 HK5 HO5 HB5 HKD2 HD2 HSDT
          go_wp2_with fail
          go_loopw [1, 33] (fun b' i wr => ∃ (t : Nat), t ≤ ls.length ∧ i = .int .i64 t ∧ Hid (LB wr w0.heap.size b' (L0 ++ ls.take t)) ∧ Hid (Gr w6 wr bu b')) (fun _ i _ => ls.length - (intOf i).toNat)
          case atStart => exact ⟨0, Nat.zero_le _, rfl, hid (by simpa using HO6.out), hid (Gr.refl _ _)⟩
          case round =>
            clear HO6
            obtain ⟨t, ht, rfl, HOt, HGt⟩ := hrel
            have HNB : Hid (∀ b, wq.heap.size ≤ b → some b ≠ bu.ownBlock) := hid (fun b hb e => by have := (HUL.out b e.symm).2; omega)
            have HNB2 : Hid (∀ b, ((wq.heap.size ≤ b ∧ b < w6.heap.size) ∨ wr.heap.size ≤ b) → some b ≠ u1.ownBlock) := hid (fun b hb e => by
              have h1 := (HOt.out.lt b e.symm).2
              rcases HGt.out.l with h2 | ⟨j, h2, h3⟩
              · rw [h2] at e; have := (HUL.out b e.symm).2; have := HZ6.out; omega
              · rw [h2] at e; have e : b = j := by injection e
                omega)
            have hz6 := HGt.out.g.size
            have HK2 := hid (HGt.out.g.cell HK6.out.c0 (HNB.out _ (by have := HZ6.out; show wq.heap.size ≤ W1.heap.size; omega)))
            have HK3 := hid (HGt.out.g.cell HK6.out.c1 (HNB.out _ (by have := HZ6.out; show wq.heap.size ≤ W1.heap.size; omega)))
            have HK4 := hid (HGt.out.g.cell HD6.out.c1 (HNB.out _ (Nat.le_refl _)))
            have HBR7 : Hid (Below w0.heap.size w0 wr) := hid (HBW6.out.trans (HGt.out.below HZ6.out.2.2.2.2 (fun k hk => (HUL.out k hk).1)))
            have HP7 : Hid (wr.ownsRow W2.heap.size 9 1 (.slice (some ⟨pq, 0, none⟩) (p.length + 1) pcap) (p.length + 1) (sRow (p ++ [s]))) := hid (own_at5 HP6.out (fun g hg => HGt.out.g.block g (World.ownsRow.lt HP6.out g hg).2 (HNB.out g (by have h1 := (World.ownsRow.lt HP6.out g hg).1; have h2 := HZ6.out; omega))))
            by_cases htl : t < ls.length
            · obtain ⟨g2, rfl, hg21, hg22, hgc2⟩ := HDD.out (by omega)
              obtain ⟨x, hxm, hxk, hc1, hc2⟩ := hgc2 t htl
              have c1 := HGt.out.g.cell hc1 (HNB.out g2 (by have h2 := HZ6.out; show wq.heap.size ≤ g2; omega))
              have c2 := HGt.out.g.cell hc2 (HNB.out g2 (by have h2 := HZ6.out; show wq.heap.size ≤ g2; omega))
              have hxb := HLS.out x hxm
              have HMX : Hid (∀ w', Below w0.heap.size w0 w' → (Instr.lookup 45 (.map a2) (.agg #[.int .i64 x.r, .int .i64 x.q]) false).run Tryz.prog w' = .ok (.agg #[.string x.v]) w') := hid (fun w' h => HMT.out w' h x hxm)
              have HTK2 : Hid (ls.take (t + 1) = ls.take t ++ [x]) := hid (by rw [List.take_add_one, hxk]; rfl)
              obtain ⟨xp, xf, xr, xq, xv⟩ := x
              dsimp only at c1 c2 hxb HMX
              have hxp : xp = p ++ [s] := congrArg Lf.p hxb.1
              have hxf : xf = decide (Y = 2) := congrArg Lf.fl hxb.1
              subst hxp
              have hfl : (Y == 2) = xf := by rw [hxf]; rfl
              have hfd : ∀ w : World, (Instr.field 122 (.agg #[.string xv]) 0).run Tryz.prog w = .ok (.string xv) w := fun w => by kernel_rfl
              obtain ⟨V1, hV1⟩ : ∃ V1, wr.alloc (.cells #[.int .i64 xr, .int .i64 xq] 87) = V1 := ⟨_, rfl⟩
              have bV1 : Below wr.heap.size wr V1 := by rw [← hV1]; exact (Below.refl _ _).alloc (Nat.le_refl _) _
              have DV : Bx2 V1 wr.heap.size (.int .i64 xr) (.int .i64 xq) := by rw [← hV1]; exact Bx2.made _ _ _ _
              have HDV := hid DV
              have HBV : Hid (Below w0.heap.size w0 V1) := hid (HBR7.out.trans (bV1.mono HBR7.out.size))
              have HLV := hid (HOt.out.below bV1)
              have HPV := hid (own_way (own_at5 HP7.out (fun g hg => bV1.block g (World.ownsRow.lt HP7.out g hg).2)) (show (p ++ [s]).length = p.length + 1 by simp))
              have HCL2 : Hid (∀ w', Below V1.heap.size V1 w' → Calls Tryz.prog 53 #[.slice (some ⟨pq, 0, none⟩) (p.length + 1) pcap] w' fun e w'' => ∃ q cap, e = .returned (.slice (some ⟨q, 0, none⟩) (p.length + 1) cap) ∧ Below w'.heap.size w' w'' ∧ w''.ownsRow w'.heap.size 9 1 (.slice (some ⟨q, 0, none⟩) (p.length + 1) cap) (p.length + 1) (sRow (p ++ [s]))) := hid (fun w' hb' => by
                have hw := HPV.out.2.same (hb'.block pq HPV.out.2.lt)
                exact cloneS pq (p.length + 1) pcap (p ++ [s]) w' (by simp) (by omega) hw.lt (fun t ht => hw.cell ht))
              have HAP : Hid (∀ w7 q7 cap7, Below V1.heap.size V1 w7 → w7.ownsRow V1.heap.size 9 1 (.slice (some ⟨q7, 0, none⟩) (p.length + 1) cap7) (p.length + 1) (sRow (p ++ [s])) → ∃ q' cap' n' w3, (Builtin.append_ #[23, 23] 23 #[u1, .slice (some ⟨w7.heap.size, 0, none⟩) 1 1]).run Tryz.prog (w7.alloc (.cells #[.slice (some ⟨q7, 0, none⟩) (p.length + 1) cap7, .bool xf, .int .i64 xr, .int .i64 xq, .string xv] 89)) = .ok (.slice (some ⟨q', 0, none⟩) n' cap') w3 ∧
                  LB w3 w0.heap.size (.slice (some ⟨q', 0, none⟩) n' cap') (L0 ++ ls.take (t + 1)) ∧ Gr w7 w3 u1 (.slice (some ⟨q', 0, none⟩) n' cap')) := hid (fun w7 q7 cap7 b7 o7 => by
                have hp7 := World.ownsRow.lt o7 q7 rfl
                have hcap : p.length + 1 ≤ cap7 ∧ cap7 ≤ 9223372036854775807 := by
                  rcases o7.2 with ⟨h0, _⟩ | ⟨g', cap', cur, hv, hbase, hb, h1, h2, h3, h4⟩
                  · cases h0
                  · injection hv with e1 e2 e3
                    unfold maxLen at h2
                    omega
                obtain ⟨q', cap', w3, e1, e2, e3⟩ := HLV.out.app b7 HBV.out.size (by have h1 := HZL.out; simp only [List.length_append, List.length_take] at h1 ⊢; omega) ⟨p ++ [s], xf, xr, xq, xv⟩ q7 cap7 hp7.1 hp7.2 (by simpa using (own_way o7 (show (p ++ [s]).length = p.length + 1 by simp)).2) (by simpa using hcap)
                refine ⟨q', cap', _, w3, by simpa using e1, ?_, e3⟩
                rw [HTK2.out, ← List.append_assoc]; exact e2)
              have HS1 : Hid (∀ w', Below w0.heap.size w0 w' → w'.cell? ⟨wq.heap.size, 1, none⟩ = some (.int .i64 Y) → w'.cell? ⟨W1.heap.size, 1, none⟩ = some (.map a2) → w'.cell? ⟨wr.heap.size, 0, none⟩ = some (.int .i64 xr) → w'.cell? ⟨wr.heap.size, 1, none⟩ = some (.int .i64 xq) → (w'.cell? ⟨wq.heap.size, 1, none⟩ = some (.int .i64 Y) ∧ w'.cell? ⟨W1.heap.size, 1, none⟩ = some (.map a2) ∧ w'.cell? ⟨wr.heap.size, 0, none⟩ = some (.int .i64 xr) ∧ w'.cell? ⟨wr.heap.size, 1, none⟩ = some (.int .i64 xq) ∧ (Instr.lookup 45 (.map a2) (.agg #[.int .i64 xr, .int .i64 xq]) false).run Tryz.prog w' = .ok (.agg #[.string xv]) w')) := hid (fun w' h1 h2 h3 h4 h5 => ⟨h2, h3, h4, h5, HMX.out w' h1⟩)
              have HKV4 := hid ((bV1.cell (p := ⟨wq.heap.size, 1, none⟩) (by have := HZ6.out; show wq.heap.size < wr.heap.size; omega)).trans HK4.out)
              have HKV3 := hid ((bV1.cell (p := ⟨W1.heap.size, 1, none⟩) (by have := HZ6.out; show W1.heap.size < wr.heap.size; omega)).trans HK3.out)
              have HSV : Hid (∀ w', Below V1.heap.size V1 w' → (w'.cell? ⟨wq.heap.size, 1, none⟩ = some (.int .i64 Y) ∧ w'.cell? ⟨W1.heap.size, 1, none⟩ = some (.map a2) ∧ w'.cell? ⟨wr.heap.size, 0, none⟩ = some (.int .i64 xr) ∧ w'.cell? ⟨wr.heap.size, 1, none⟩ = some (.int .i64 xq) ∧ (Instr.lookup 45 (.map a2) (.agg #[.int .i64 xr, .int .i64 xq]) false).run Tryz.prog w' = .ok (.agg #[.string xv]) w')) := hid (fun w' b => by
                have hz := HDV.out.lt
                have h6 := HZ6.out
                exact HS1.out w' (HBV.out.trans (b.mono HBV.out.size)) ((b.cell (p := ⟨wq.heap.size, 1, none⟩) (by show wq.heap.size < V1.heap.size; omega)).trans HKV4.out) ((b.cell (p := ⟨W1.heap.size, 1, none⟩) (by show W1.heap.size < V1.heap.size; omega)).trans HKV3.out) (HDV.out.below b HDV.out.lt).c0 (HDV.out.below b HDV.out.lt).c1)
              have HGV : Hid (Gr w6 V1 bu u1) := hid (HGt.out.trans (Gr.of_below bV1))
              have HZV : Hid (wr.heap.size < V1.heap.size) := hid DV.lt
              clear bV1 DV hc1 hc2 hgc2 hxm hxk hxb HOt HGt hxf HMX HK4 HK3 HK2 HP7 hg21 hg22
              go_wp2_with fail
              refine wp_region_held_drew (S := fun w' => w'.cell? ⟨wq.heap.size, 1, none⟩ = some (.int .i64 Y) ∧ w'.cell? ⟨W1.heap.size, 1, none⟩ = some (.map a2) ∧ w'.cell? ⟨wr.heap.size, 0, none⟩ = some (.int .i64 xr) ∧ w'.cell? ⟨wr.heap.size, 1, none⟩ = some (.int .i64 xq) ∧ (Instr.lookup 45 (.map a2) (.agg #[.int .i64 xr, .int .i64 xq]) false).run Tryz.prog w' = .ok (.agg #[.string xv]) w') (by kernel_rfl) (HSV.out _ (Below.refl _ _).drew) (fun hHeld => ?_)
              clear c1 c2 hV1
              refine tk 0 37 ?_ (by kernel_rfl) (fun _ _ _ h => h) ?_ hHeld (tk 1 38 ?_ (by kernel_rfl) (fun _ _ _ h => h) ?_ hHeld (tk 3 40 ?_ (by kernel_rfl) (fun _ _ _ h => h) ?_ hHeld (tk 4 41 ?_ (by kernel_rfl) (fun _ _ _ h => h) ?_ hHeld ?_)))
              iterate 4 (rotate_left; focus (intro o ho; simp only [gZa, gZb, gZc, gZd] at ho; subst ho; refine Or.inl ⟨by rfl, ?_⟩; intro w hSw; (try dsimp only at hSw); (try simp only [Act.put, sZa, sZb, sZc]); go_simp; try with_reducible rfl))
              try simp only [Act.put, sZa, sZb, sZc]
              refine tk 5 42 ?_ (by kernel_rfl) (fun _ _ _ h => h) ?_ hHeld (tk 6 43 ?_ (by kernel_rfl) (fun _ _ _ h => h) ?_ hHeld (tk 7 44 ?_ (by kernel_rfl) (fun _ _ _ h => h) ?_ hHeld (tk 8 45 ?_ (by kernel_rfl) (fun _ _ _ h => h) ?_ hHeld ?_)))
              iterate 4 (rotate_left; focus (intro o ho; simp only [gZa, gZb, gZc, gZd] at ho; subst ho; refine Or.inl ⟨by rfl, ?_⟩; intro w hSw; (try dsimp only at hSw); (try simp only [Act.put, sZa, sZb, sZc]); go_simp; try with_reducible rfl))
              try simp only [Act.put, sZa, sZb, sZc]
              refine tk 9 46 ?_ (by kernel_rfl) (fun _ _ _ h => h) ?_ hHeld (tk 10 47 ?_ (by kernel_rfl) (fun _ _ _ h => h) ?_ hHeld (tk 11 48 ?_ (by kernel_rfl) (fun _ _ _ h => h) ?_ hHeld ?_))
              iterate 3 (rotate_left; focus (intro o ho; simp only [gZa, gZb, gZc, gZd] at ho; subst ho; refine Or.inl ⟨by rfl, ?_⟩; intro w hSw; (try dsimp only at hSw); (try simp only [Act.put, sZa, sZb, sZc]); go_simp; try with_reducible rfl))
              try simp only [Act.put, sZa, sZb, sZc]
              refine call1 (i := 2) (d := some 39) (by kernel_rfl) (by kernel_rfl) ?_
              intro o ho hod K hK; simp only [gZa, gZb, gZc, gZd] at ho; subst ho
              go_simp
              refine (HCL2.out _ (Below.refl _ _).drew).mono ?_
              rintro e w7 ⟨q7, cap7, rfl, b7, o7⟩
              have b7' : Below V1.heap.size V1 w7 := ⟨b7.os, b7.tape, b7.output, b7.size, b7.block⟩
              refine hK.out _ _ (HSV.out _ b7') (fun hHeld => ?_)
              clear hK K
              try simp only [Act.put, sZa, sZb, sZc]
              refine tk 12 49 ?_ (by kernel_rfl) (fun _ _ _ h => h) ?_ hHeld ?_
              rotate_left
              · (intro o ho; simp only [gZa, gZb, gZc, gZd] at ho; subst ho; refine Or.inl ⟨by rfl, ?_⟩; intro w hSw; (try dsimp only at hSw); go_simp; try with_reducible rfl)
              try simp only [Act.put, sZa, sZb, sZc]
              refine call1 (i := 13) (d := some 50) (by kernel_rfl) (by kernel_rfl) ?_
              intro o ho hod K hK; simp only [gZa, gZb, gZc, gZd] at ho; subst ho
              go_simp
              obtain ⟨q8, cap8, n8, w8, happ, lb8, g8⟩ := HAP.out w7 q7 cap7 b7' o7
              have b72 : Below V1.heap.size V1 (w7.alloc (.cells #[.slice (some ⟨q7, 0, none⟩) (p.length + 1) cap7, .bool xf, .int .i64 xr, .int .i64 xq, .string xv] 89)) := b7'.alloc b7'.size _
              refine hK.out _ _ (HSV.out _ b72) (fun hHeld => ?_)
              clear hK K
              try simp only [Act.put, sZa, sZb, sZc]
              refine call1 (i := 14) (d := some 51) (by kernel_rfl) (by kernel_rfl) ?_
              intro o ho hod K hK; simp only [gZa, gZb, gZc, gZd] at ho; subst ho
              refine wp_app2 _ _ _ _ rfl happ (by rfl) (by rfl) rfl ?_
              have t1 := (HSV.out _ b7').1
              have t2 := (HSV.out _ b7').2.1
              have t3 := (HSV.out _ b7').2.2.1
              have t4 := (HSV.out _ b7').2.2.2.1
              have hBw8 : Below w0.heap.size w0 w8 := (HBV.out.trans (b7'.mono HBV.out.size)).trans (g8.below (by have h1 := HBV.out.size; have h2 := b7'.size; omega) (fun k hk => (HLV.out.lt k hk).1))
              refine hK.out _ _ (HS1.out _ hBw8 (g8.g.cell t1 (HNB2.out _ (.inl ⟨Nat.le_refl _, by have := HZ6.out; show wq.heap.size < w6.heap.size; omega⟩))) (g8.g.cell t2 (HNB2.out _ (.inl ⟨by have := HZ6.out; show wq.heap.size ≤ W1.heap.size; omega, by have := HZ6.out; show W1.heap.size < w6.heap.size; omega⟩))) (g8.g.cell t3 (HNB2.out _ (.inr (Nat.le_refl _)))) (g8.g.cell t4 (HNB2.out _ (.inr (Nat.le_refl _))))) (fun hHeld => ?_)
              clear hK K
              try simp only [Act.put, sZa, sZb, sZc]
              refine tk 15 1 ?_ (by kernel_rfl) (fun _ _ _ h => h) ?_ hHeld ?_
              rotate_left
              · (intro o ho; simp only [gZa, gZb, gZc, gZd] at ho; subst ho; refine Or.inl ⟨by rfl, ?_⟩; intro w hSw; (try dsimp only at hSw); go_simp; try with_reducible rfl)
              try simp only [Act.put, sZa, sZb, sZc]
              refine wpAnyH_done (by kernel_rfl) ?_ _
              have HL8 := hid lb8
              have HG8 := hid ((HGV.out.trans (Gr.of_below b7')).trans g8)
              clear hHeld b7 b7' b72 o7 happ lb8 g8 t1 t2 t3 t4 hBw8 HSV HS1 HAP HCL2
              go_wp2_with fail
              go_roundw
              case rel => exact ⟨t + 1, htl, by go_num, HL8, HG8⟩
              case measure => simp [intOf]; omega
            · obtain rfl : t = ls.length := by omega
              have HOT : Hid (LB wr w0.heap.size u1 (L0 ++ ls)) := hid (by have := HOt.out; rw [List.take_length] at this; exact this)
              have kc0 := HK2.out
              have kc1 := HK3.out
              have HCA := hid (HRC.out u1 (L0 ++ ls) (.slice (some ⟨pq, 0, none⟩) (p.length + 1) pcap) wr HBR7.out HOT.out (own_way HP7.out (show (p ++ [s]).length = p.length + 1 by simp)).1 (fun g hg e => by
                have e1 : pq = g := by simpa [Value.ownBlock] using hg
                subst e1
                exact HNB2.out pq (.inl (by have h1 := HPL.out; have h2 := HZ6.out; omega)) e.symm) (by have := HZL.out; simp only [List.length_append] at this ⊢; omega))
              go_wp2_with fail
              refine HCA.out.mono ?_
              rintro e w9 ⟨v9, rfl, lb9, g9⟩
              have HL9 : Hid (LB w9 w0.heap.size v9 (l0 ++ (ts.take (k + 1)).flatMap (gK l f p))) := hid (by rw [HFIN.out, ← List.append_assoc]; exact lb9)
              have HG9 : Hid (Gr w1 w9 bv v9) := hid (((HGk.out.trans (Gr.of_below HBR6.out)).trans HGt.out).trans g9)
              clear lb9 g9 HCA kc0 kc1
              go_wp2_with fail
              go_roundw
              case rel => exact ⟨k + 1, hlt, by go_num, HL9, HG9⟩
              case measure => simp [intOf]; omega
        ·
          intro o ho hod K hK; simp only [gZa, gZb, gZc, gZd] at ho; subst ho
          go_simp
          have b3' : Below W2.heap.size W2 (W2.drew.alloc (.cells #[.string s] 9)) := ((Below.refl _ _).drew).alloc (Nat.le_refl _) _
          refine hK.out _ _ (HSE.out _ b3') (fun hHeld => ?_)
          clear hK K
          try simp only [Act.put, sZa, sZb, sZc]
          refine call1 (i := 1) (d := some 25) (by kernel_rfl) (by kernel_rfl) ?_
          intro o ho hod K hK; simp only [gZa, gZb, gZc, gZd] at ho; subst ho
          go_simp
          refine (HCL.out _ b3').mono ?_
          rintro e w4 ⟨v3, rfl, b4, o4⟩
          have b4' : Below W2.heap.size W2 w4 := keepS b3' b4
          refine hK.out _ _ (HSE.out _ b4') (fun hHeld => ?_)
          clear hK K
          try simp only [Act.put, sZa, sZb, sZc]
          have hm1 := Bx1.made W2.drew (.string s) 9
          have hcb : w4.cell? ⟨W2.heap.size, 0, none⟩ = some (.string s) := (b4.cell (p := ⟨W2.heap.size, 0, none⟩) hm1.lt).trans hm1.c0
          have o4' : w4.ownsRow W2.heap.size 9 1 v3 p.length (sRow p) := own_weak5 o4 (Nat.le_of_lt hm1.lt)
          obtain ⟨pq, pcap, w5, happ, o5, g5, hq5⟩ := pthApp o4' b4'.size (by omega) s W2.heap.size hcb
          have b5' : Below W2.heap.size W2 w5 := b4'.grown g5 b4'.size (fun k e => (World.ownsRow.lt o4' k e).1)
          refine call1 (i := 5) (d := some 29) (by kernel_rfl) (by kernel_rfl) ?_
          intro o ho hod K hK; simp only [gZa, gZb, gZc, gZd] at ho; subst ho
          refine wp_app2 _ _ _ _ rfl happ (by rfl) (by rfl) rfl ?_
          refine hK.out _ _ (HSE.out _ b5') (fun hHeld => ?_)
          clear hK K
          try simp only [Act.put, sZa, sZb, sZc]
          refine tk 6 10 ?_ (by kernel_rfl) (fun _ _ _ h => h) ?_ hHeld ?_
          rotate_left
          · (intro o ho; simp only [gZa, gZb, gZc, gZd] at ho; subst ho; refine Or.inl ⟨by rfl, ?_⟩; intro w hSw; (try dsimp only at hSw); go_simp; try with_reducible rfl)
          try simp only [Act.put, sZa, sZb, sZc]
          refine wpAnyH_done (by kernel_rfl) ?_ _
          have HO5 := hid o5
          have HB5 := hid b5'
          clear hHeld b3' b4' b4 hm1 hcb o4 o4' o5 g5 b5' happ HSE HCL hq5
          obtain ⟨bu, hbu⟩ : ∃ b, b = u1 := ⟨_, rfl⟩
          subst hbu
          obtain ⟨wq, hwq⟩ : ∃ b, b = wr := ⟨_, rfl⟩
          subst hwq
          have HBR5 : Hid (Below w0.heap.size w0 w5) := hid (HBR2.out.trans (HB5.out.mono HBR2.out.size))
          have K5 := HKD2.out.below HB5.out HKD2.out.lt
          have kc0 := K5.c0
          have kc1 := K5.c1
          have HK5 := hid K5
          have HD5 := hid (HD2.out.below HB5.out HD2.out.lt)
          have HPL : Hid (W2.heap.size ≤ pq ∧ pq < w5.heap.size) := hid (World.ownsRow.lt HO5.out pq rfl)
          clear K5
          go_wp2_with fail
          refine (HSDT.out w5 HBR5.out).mono ?_
          rintro e w6 ⟨vd2, ts2, rfl, hts2, hod2, b6⟩
          obtain ⟨da2, dc2, rfl, hdc21, hdc22, hdr2⟩ := jdseg hod2
          have hte : ts2.length = ls.length := by rw [hts2]; simp
          have HDD : Hid (0 < ls.length → ∃ g2, da2 = some ⟨g2, 0, none⟩ ∧ w5.heap.size ≤ g2 ∧ g2 < w6.heap.size ∧ ∀ i, i < ls.length → ∃ x ∈ ls, ls[i]? = some x ∧ w6.cell? ⟨g2, i * 2, none⟩ = some (.int .i64 x.r) ∧ w6.cell? ⟨g2, i * 2 + 1, none⟩ = some (.int .i64 x.q)) := hid (fun h0 => by
            obtain ⟨g2, e1, e2, e3, e4⟩ := hdr2 (by omega)
            refine ⟨g2, e1, e2, e3, fun i hi => ?_⟩
            obtain ⟨d, f1, f2, f3⟩ := e4 i (by omega)
            rw [hts2] at f1
            simp only [List.getElem?_map, Option.map_eq_some_iff] at f1
            obtain ⟨x, f4, f5⟩ := f1
            subst f5
            exact ⟨x, List.mem_of_getElem? f4, f4, f2, f3⟩)
          rw [hte] at hdc21 ⊢
          have hlsl : ls.length ≤ 1000000 := by have := HZL.out; simp only [List.length_append] at this; omega
          have B26 := keepS HB5.out b6
          have BR6 := keepS HB2.out B26
          have HBR6 := hid BR6
          have HO6 : Hid (LB w6 w0.heap.size bu L0) := hid (HOk.out.below BR6)
          have HP6 : Hid (w6.ownsRow W2.heap.size 9 1 (.slice (some ⟨pq, 0, none⟩) (p.length + 1) pcap) (p.length + 1) (sRow (p ++ [s]))) := hid (own_at5 HO5.out (fun g hg => b6.block g (World.ownsRow.lt HO5.out g hg).2))
          have HD6 := hid (HD5.out.below b6 HD5.out.lt)
          have HK6 := hid (HK5.out.below b6 HK5.out.lt)
          have HBW6 : Hid (Below w0.heap.size w0 w6) := hid (HBR5.out.trans (b6.mono HBR5.out.size))
          have HZ6 : Hid (wq.heap.size < W1.heap.size ∧ W1.heap.size < W2.heap.size ∧ W2.heap.size ≤ w5.heap.size ∧ w5.heap.size ≤ w6.heap.size ∧ w0.heap.size ≤ w6.heap.size) := hid ⟨HZ1.out.1, HZ1.out.2, HB5.out.size, b6.size, HBW6.out.size⟩
          clear hod2 hdr2 hts2 hte b6 B26 BR6 kc0 kc1 HD5 HK5 HO5 HB5 HKD2 HD2 HSDT
          go_wp2_with fail
          go_loopw [1, 33] (fun b' i wr => ∃ (t : Nat), t ≤ ls.length ∧ i = .int .i64 t ∧ Hid (LB wr w0.heap.size b' (L0 ++ ls.take t)) ∧ Hid (Gr w6 wr bu b')) (fun _ i _ => ls.length - (intOf i).toNat)
          case atStart => exact ⟨0, Nat.zero_le _, rfl, hid (by simpa using HO6.out), hid (Gr.refl _ _)⟩
          case round =>
            clear HO6
            obtain ⟨t, ht, rfl, HOt, HGt⟩ := hrel
            have HNB : Hid (∀ b, wq.heap.size ≤ b → some b ≠ bu.ownBlock) := hid (fun b hb e => by have := (HUL.out b e.symm).2; omega)
            have HNB2 : Hid (∀ b, ((wq.heap.size ≤ b ∧ b < w6.heap.size) ∨ wr.heap.size ≤ b) → some b ≠ u1.ownBlock) := hid (fun b hb e => by
              have h1 := (HOt.out.lt b e.symm).2
              rcases HGt.out.l with h2 | ⟨j, h2, h3⟩
              · rw [h2] at e; have := (HUL.out b e.symm).2; have := HZ6.out; omega
              · rw [h2] at e; have e : b = j := by injection e
                omega)
            have hz6 := HGt.out.g.size
            have HK2 := hid (HGt.out.g.cell HK6.out.c0 (HNB.out _ (by have := HZ6.out; show wq.heap.size ≤ W1.heap.size; omega)))
            have HK3 := hid (HGt.out.g.cell HK6.out.c1 (HNB.out _ (by have := HZ6.out; show wq.heap.size ≤ W1.heap.size; omega)))
            have HK4 := hid (HGt.out.g.cell HD6.out.c1 (HNB.out _ (Nat.le_refl _)))
            have HBR7 : Hid (Below w0.heap.size w0 wr) := hid (HBW6.out.trans (HGt.out.below HZ6.out.2.2.2.2 (fun k hk => (HUL.out k hk).1)))
            have HP7 : Hid (wr.ownsRow W2.heap.size 9 1 (.slice (some ⟨pq, 0, none⟩) (p.length + 1) pcap) (p.length + 1) (sRow (p ++ [s]))) := hid (own_at5 HP6.out (fun g hg => HGt.out.g.block g (World.ownsRow.lt HP6.out g hg).2 (HNB.out g (by have h1 := (World.ownsRow.lt HP6.out g hg).1; have h2 := HZ6.out; omega))))
            by_cases htl : t < ls.length
            · obtain ⟨g2, rfl, hg21, hg22, hgc2⟩ := HDD.out (by omega)
              obtain ⟨x, hxm, hxk, hc1, hc2⟩ := hgc2 t htl
              have c1 := HGt.out.g.cell hc1 (HNB.out g2 (by have h2 := HZ6.out; show wq.heap.size ≤ g2; omega))
              have c2 := HGt.out.g.cell hc2 (HNB.out g2 (by have h2 := HZ6.out; show wq.heap.size ≤ g2; omega))
              have hxb := HLS.out x hxm
              have HMX : Hid (∀ w', Below w0.heap.size w0 w' → (Instr.lookup 45 (.map a2) (.agg #[.int .i64 x.r, .int .i64 x.q]) false).run Tryz.prog w' = .ok (.agg #[.string x.v]) w') := hid (fun w' h => HMT.out w' h x hxm)
              have HTK2 : Hid (ls.take (t + 1) = ls.take t ++ [x]) := hid (by rw [List.take_add_one, hxk]; rfl)
              obtain ⟨xp, xf, xr, xq, xv⟩ := x
              dsimp only at c1 c2 hxb HMX
              have hxp : xp = p ++ [s] := congrArg Lf.p hxb.1
              have hxf : xf = decide (Y = 2) := congrArg Lf.fl hxb.1
              subst hxp
              have hfl : (Y == 2) = xf := by rw [hxf]; rfl
              have hfd : ∀ w : World, (Instr.field 122 (.agg #[.string xv]) 0).run Tryz.prog w = .ok (.string xv) w := fun w => by kernel_rfl
              obtain ⟨V1, hV1⟩ : ∃ V1, wr.alloc (.cells #[.int .i64 xr, .int .i64 xq] 87) = V1 := ⟨_, rfl⟩
              have bV1 : Below wr.heap.size wr V1 := by rw [← hV1]; exact (Below.refl _ _).alloc (Nat.le_refl _) _
              have DV : Bx2 V1 wr.heap.size (.int .i64 xr) (.int .i64 xq) := by rw [← hV1]; exact Bx2.made _ _ _ _
              have HDV := hid DV
              have HBV : Hid (Below w0.heap.size w0 V1) := hid (HBR7.out.trans (bV1.mono HBR7.out.size))
              have HLV := hid (HOt.out.below bV1)
              have HPV := hid (own_way (own_at5 HP7.out (fun g hg => bV1.block g (World.ownsRow.lt HP7.out g hg).2)) (show (p ++ [s]).length = p.length + 1 by simp))
              have HCL2 : Hid (∀ w', Below V1.heap.size V1 w' → Calls Tryz.prog 53 #[.slice (some ⟨pq, 0, none⟩) (p.length + 1) pcap] w' fun e w'' => ∃ q cap, e = .returned (.slice (some ⟨q, 0, none⟩) (p.length + 1) cap) ∧ Below w'.heap.size w' w'' ∧ w''.ownsRow w'.heap.size 9 1 (.slice (some ⟨q, 0, none⟩) (p.length + 1) cap) (p.length + 1) (sRow (p ++ [s]))) := hid (fun w' hb' => by
                have hw := HPV.out.2.same (hb'.block pq HPV.out.2.lt)
                exact cloneS pq (p.length + 1) pcap (p ++ [s]) w' (by simp) (by omega) hw.lt (fun t ht => hw.cell ht))
              have HAP : Hid (∀ w7 q7 cap7, Below V1.heap.size V1 w7 → w7.ownsRow V1.heap.size 9 1 (.slice (some ⟨q7, 0, none⟩) (p.length + 1) cap7) (p.length + 1) (sRow (p ++ [s])) → ∃ q' cap' n' w3, (Builtin.append_ #[23, 23] 23 #[u1, .slice (some ⟨w7.heap.size, 0, none⟩) 1 1]).run Tryz.prog (w7.alloc (.cells #[.slice (some ⟨q7, 0, none⟩) (p.length + 1) cap7, .bool xf, .int .i64 xr, .int .i64 xq, .string xv] 89)) = .ok (.slice (some ⟨q', 0, none⟩) n' cap') w3 ∧
                  LB w3 w0.heap.size (.slice (some ⟨q', 0, none⟩) n' cap') (L0 ++ ls.take (t + 1)) ∧ Gr w7 w3 u1 (.slice (some ⟨q', 0, none⟩) n' cap')) := hid (fun w7 q7 cap7 b7 o7 => by
                have hp7 := World.ownsRow.lt o7 q7 rfl
                have hcap : p.length + 1 ≤ cap7 ∧ cap7 ≤ 9223372036854775807 := by
                  rcases o7.2 with ⟨h0, _⟩ | ⟨g', cap', cur, hv, hbase, hb, h1, h2, h3, h4⟩
                  · cases h0
                  · injection hv with e1 e2 e3
                    unfold maxLen at h2
                    omega
                obtain ⟨q', cap', w3, e1, e2, e3⟩ := HLV.out.app b7 HBV.out.size (by have h1 := HZL.out; simp only [List.length_append, List.length_take] at h1 ⊢; omega) ⟨p ++ [s], xf, xr, xq, xv⟩ q7 cap7 hp7.1 hp7.2 (by simpa using (own_way o7 (show (p ++ [s]).length = p.length + 1 by simp)).2) (by simpa using hcap)
                refine ⟨q', cap', _, w3, by simpa using e1, ?_, e3⟩
                rw [HTK2.out, ← List.append_assoc]; exact e2)
              have HS1 : Hid (∀ w', Below w0.heap.size w0 w' → w'.cell? ⟨wq.heap.size, 1, none⟩ = some (.int .i64 Y) → w'.cell? ⟨W1.heap.size, 1, none⟩ = some (.map a2) → w'.cell? ⟨wr.heap.size, 0, none⟩ = some (.int .i64 xr) → w'.cell? ⟨wr.heap.size, 1, none⟩ = some (.int .i64 xq) → (w'.cell? ⟨wq.heap.size, 1, none⟩ = some (.int .i64 Y) ∧ w'.cell? ⟨W1.heap.size, 1, none⟩ = some (.map a2) ∧ w'.cell? ⟨wr.heap.size, 0, none⟩ = some (.int .i64 xr) ∧ w'.cell? ⟨wr.heap.size, 1, none⟩ = some (.int .i64 xq) ∧ (Instr.lookup 45 (.map a2) (.agg #[.int .i64 xr, .int .i64 xq]) false).run Tryz.prog w' = .ok (.agg #[.string xv]) w')) := hid (fun w' h1 h2 h3 h4 h5 => ⟨h2, h3, h4, h5, HMX.out w' h1⟩)
              have HKV4 := hid ((bV1.cell (p := ⟨wq.heap.size, 1, none⟩) (by have := HZ6.out; show wq.heap.size < wr.heap.size; omega)).trans HK4.out)
              have HKV3 := hid ((bV1.cell (p := ⟨W1.heap.size, 1, none⟩) (by have := HZ6.out; show W1.heap.size < wr.heap.size; omega)).trans HK3.out)
              have HSV : Hid (∀ w', Below V1.heap.size V1 w' → (w'.cell? ⟨wq.heap.size, 1, none⟩ = some (.int .i64 Y) ∧ w'.cell? ⟨W1.heap.size, 1, none⟩ = some (.map a2) ∧ w'.cell? ⟨wr.heap.size, 0, none⟩ = some (.int .i64 xr) ∧ w'.cell? ⟨wr.heap.size, 1, none⟩ = some (.int .i64 xq) ∧ (Instr.lookup 45 (.map a2) (.agg #[.int .i64 xr, .int .i64 xq]) false).run Tryz.prog w' = .ok (.agg #[.string xv]) w')) := hid (fun w' b => by
                have hz := HDV.out.lt
                have h6 := HZ6.out
                exact HS1.out w' (HBV.out.trans (b.mono HBV.out.size)) ((b.cell (p := ⟨wq.heap.size, 1, none⟩) (by show wq.heap.size < V1.heap.size; omega)).trans HKV4.out) ((b.cell (p := ⟨W1.heap.size, 1, none⟩) (by show W1.heap.size < V1.heap.size; omega)).trans HKV3.out) (HDV.out.below b HDV.out.lt).c0 (HDV.out.below b HDV.out.lt).c1)
              have HGV : Hid (Gr w6 V1 bu u1) := hid (HGt.out.trans (Gr.of_below bV1))
              have HZV : Hid (wr.heap.size < V1.heap.size) := hid DV.lt
              clear bV1 DV hc1 hc2 hgc2 hxm hxk hxb HOt HGt hxf HMX HK4 HK3 HK2 HP7 hg21 hg22
              go_wp2_with fail
              refine wp_region_held_drew (S := fun w' => w'.cell? ⟨wq.heap.size, 1, none⟩ = some (.int .i64 Y) ∧ w'.cell? ⟨W1.heap.size, 1, none⟩ = some (.map a2) ∧ w'.cell? ⟨wr.heap.size, 0, none⟩ = some (.int .i64 xr) ∧ w'.cell? ⟨wr.heap.size, 1, none⟩ = some (.int .i64 xq) ∧ (Instr.lookup 45 (.map a2) (.agg #[.int .i64 xr, .int .i64 xq]) false).run Tryz.prog w' = .ok (.agg #[.string xv]) w') (by kernel_rfl) (HSV.out _ (Below.refl _ _).drew) (fun hHeld => ?_)
              clear c1 c2 hV1
              refine tk 0 37 ?_ (by kernel_rfl) (fun _ _ _ h => h) ?_ hHeld (tk 1 38 ?_ (by kernel_rfl) (fun _ _ _ h => h) ?_ hHeld (tk 3 40 ?_ (by kernel_rfl) (fun _ _ _ h => h) ?_ hHeld (tk 4 41 ?_ (by kernel_rfl) (fun _ _ _ h => h) ?_ hHeld ?_)))
              iterate 4 (rotate_left; focus (intro o ho; simp only [gZa, gZb, gZc, gZd] at ho; subst ho; refine Or.inl ⟨by rfl, ?_⟩; intro w hSw; (try dsimp only at hSw); (try simp only [Act.put, sZa, sZb, sZc]); go_simp; try with_reducible rfl))
              try simp only [Act.put, sZa, sZb, sZc]
              refine tk 5 42 ?_ (by kernel_rfl) (fun _ _ _ h => h) ?_ hHeld (tk 6 43 ?_ (by kernel_rfl) (fun _ _ _ h => h) ?_ hHeld (tk 7 44 ?_ (by kernel_rfl) (fun _ _ _ h => h) ?_ hHeld (tk 8 45 ?_ (by kernel_rfl) (fun _ _ _ h => h) ?_ hHeld ?_)))
              iterate 4 (rotate_left; focus (intro o ho; simp only [gZa, gZb, gZc, gZd] at ho; subst ho; refine Or.inl ⟨by rfl, ?_⟩; intro w hSw; (try dsimp only at hSw); (try simp only [Act.put, sZa, sZb, sZc]); go_simp; try with_reducible rfl))
              try simp only [Act.put, sZa, sZb, sZc]
              refine tk 9 46 ?_ (by kernel_rfl) (fun _ _ _ h => h) ?_ hHeld (tk 10 47 ?_ (by kernel_rfl) (fun _ _ _ h => h) ?_ hHeld (tk 11 48 ?_ (by kernel_rfl) (fun _ _ _ h => h) ?_ hHeld ?_))
              iterate 3 (rotate_left; focus (intro o ho; simp only [gZa, gZb, gZc, gZd] at ho; subst ho; refine Or.inl ⟨by rfl, ?_⟩; intro w hSw; (try dsimp only at hSw); (try simp only [Act.put, sZa, sZb, sZc]); go_simp; try with_reducible rfl))
              try simp only [Act.put, sZa, sZb, sZc]
              refine call1 (i := 2) (d := some 39) (by kernel_rfl) (by kernel_rfl) ?_
              intro o ho hod K hK; simp only [gZa, gZb, gZc, gZd] at ho; subst ho
              go_simp
              refine (HCL2.out _ (Below.refl _ _).drew).mono ?_
              rintro e w7 ⟨q7, cap7, rfl, b7, o7⟩
              have b7' : Below V1.heap.size V1 w7 := ⟨b7.os, b7.tape, b7.output, b7.size, b7.block⟩
              refine hK.out _ _ (HSV.out _ b7') (fun hHeld => ?_)
              clear hK K
              try simp only [Act.put, sZa, sZb, sZc]
              refine tk 12 49 ?_ (by kernel_rfl) (fun _ _ _ h => h) ?_ hHeld ?_
              rotate_left
              · (intro o ho; simp only [gZa, gZb, gZc, gZd] at ho; subst ho; refine Or.inl ⟨by rfl, ?_⟩; intro w hSw; (try dsimp only at hSw); go_simp; try with_reducible rfl)
              try simp only [Act.put, sZa, sZb, sZc]
              refine call1 (i := 13) (d := some 50) (by kernel_rfl) (by kernel_rfl) ?_
              intro o ho hod K hK; simp only [gZa, gZb, gZc, gZd] at ho; subst ho
              go_simp
              obtain ⟨q8, cap8, n8, w8, happ, lb8, g8⟩ := HAP.out w7 q7 cap7 b7' o7
              have b72 : Below V1.heap.size V1 (w7.alloc (.cells #[.slice (some ⟨q7, 0, none⟩) (p.length + 1) cap7, .bool xf, .int .i64 xr, .int .i64 xq, .string xv] 89)) := b7'.alloc b7'.size _
              refine hK.out _ _ (HSV.out _ b72) (fun hHeld => ?_)
              clear hK K
              try simp only [Act.put, sZa, sZb, sZc]
              refine call1 (i := 14) (d := some 51) (by kernel_rfl) (by kernel_rfl) ?_
              intro o ho hod K hK; simp only [gZa, gZb, gZc, gZd] at ho; subst ho
              refine wp_app2 _ _ _ _ rfl happ (by rfl) (by rfl) rfl ?_
              have t1 := (HSV.out _ b7').1
              have t2 := (HSV.out _ b7').2.1
              have t3 := (HSV.out _ b7').2.2.1
              have t4 := (HSV.out _ b7').2.2.2.1
              have hBw8 : Below w0.heap.size w0 w8 := (HBV.out.trans (b7'.mono HBV.out.size)).trans (g8.below (by have h1 := HBV.out.size; have h2 := b7'.size; omega) (fun k hk => (HLV.out.lt k hk).1))
              refine hK.out _ _ (HS1.out _ hBw8 (g8.g.cell t1 (HNB2.out _ (.inl ⟨Nat.le_refl _, by have := HZ6.out; show wq.heap.size < w6.heap.size; omega⟩))) (g8.g.cell t2 (HNB2.out _ (.inl ⟨by have := HZ6.out; show wq.heap.size ≤ W1.heap.size; omega, by have := HZ6.out; show W1.heap.size < w6.heap.size; omega⟩))) (g8.g.cell t3 (HNB2.out _ (.inr (Nat.le_refl _)))) (g8.g.cell t4 (HNB2.out _ (.inr (Nat.le_refl _))))) (fun hHeld => ?_)
              clear hK K
              try simp only [Act.put, sZa, sZb, sZc]
              refine tk 15 1 ?_ (by kernel_rfl) (fun _ _ _ h => h) ?_ hHeld ?_
              rotate_left
              · (intro o ho; simp only [gZa, gZb, gZc, gZd] at ho; subst ho; refine Or.inl ⟨by rfl, ?_⟩; intro w hSw; (try dsimp only at hSw); go_simp; try with_reducible rfl)
              try simp only [Act.put, sZa, sZb, sZc]
              refine wpAnyH_done (by kernel_rfl) ?_ _
              have HL8 := hid lb8
              have HG8 := hid ((HGV.out.trans (Gr.of_below b7')).trans g8)
              clear hHeld b7 b7' b72 o7 happ lb8 g8 t1 t2 t3 t4 hBw8 HSV HS1 HAP HCL2
              go_wp2_with fail
              go_roundw
              case rel => exact ⟨t + 1, htl, by go_num, HL8, HG8⟩
              case measure => simp [intOf]; omega
            · obtain rfl : t = ls.length := by omega
              have HOT : Hid (LB wr w0.heap.size u1 (L0 ++ ls)) := hid (by have := HOt.out; rw [List.take_length] at this; exact this)
              have kc0 := HK2.out
              have kc1 := HK3.out
              have HCA := hid (HRC.out u1 (L0 ++ ls) (.slice (some ⟨pq, 0, none⟩) (p.length + 1) pcap) wr HBR7.out HOT.out (own_way HP7.out (show (p ++ [s]).length = p.length + 1 by simp)).1 (fun g hg e => by
                have e1 : pq = g := by simpa [Value.ownBlock] using hg
                subst e1
                exact HNB2.out pq (.inl (by have h1 := HPL.out; have h2 := HZ6.out; omega)) e.symm) (by have := HZL.out; simp only [List.length_append] at this ⊢; omega))
              go_wp2_with fail
              refine HCA.out.mono ?_
              rintro e w9 ⟨v9, rfl, lb9, g9⟩
              have HL9 : Hid (LB w9 w0.heap.size v9 (l0 ++ (ts.take (k + 1)).flatMap (gK l f p))) := hid (by rw [HFIN.out, ← List.append_assoc]; exact lb9)
              have HG9 : Hid (Gr w1 w9 bv v9) := hid (((HGk.out.trans (Gr.of_below HBR6.out)).trans HGt.out).trans g9)
              clear lb9 g9 HCA kc0 kc1
              go_wp2_with fail
              go_roundw
              case rel => exact ⟨k + 1, hlt, by go_num, HL9, HG9⟩
              case measure => simp [intOf]; omega
      · obtain rfl : k = ts.length := by omega
        have HF : Hid (l0 ++ (ts.take ts.length).flatMap (gK l f p) = l0 ++ (kS l p l.length).flatMap (gK l f p)) := hid (by rw [List.take_length, HTS.out])
        go_wp2_with fail
        go_ret
        exact ⟨_, rfl, by rw [← HF.out]; exact HOk.out, (Gr.of_below (b := bv) HB01.out).trans HGk.out⟩
end Go.Proofs.YtakmpmhjcngbbaaGreatDoor
namespace Go.Proofs.YtakmpmhjcngbbaaGreatDoor
open Go.ChangeShapes Go.WideShapes Go.ChangeAt Go.RowKit Go.Deep
theorem LC.cell {w : World} {lo g n cap : Nat} {l : List Lf} {P Q : Nat → Nat} (h : LC w lo (.slice (some ⟨g, 0, none⟩) n cap) l P Q) (hn : n = l.length) {i : Nat} (hi : i < l.length) :
    w.cell? ⟨g, i * 5, none⟩ = some (.slice (some ⟨P i, 0, none⟩) (gL l i).p.length (Q i)) ∧ w.cell? ⟨g, i * 5 + 1, none⟩ = some (.bool (gL l i).fl) ∧ w.cell? ⟨g, i * 5 + 2, none⟩ = some (.int .i64 (gL l i).r) ∧ w.cell? ⟨g, i * 5 + 3, none⟩ = some (.int .i64 (gL l i).q) ∧ w.cell? ⟨g, i * 5 + 4, none⟩ = some (.string (gL l i).v) := by
  subst hn
  have hw := own_wrF h.row
  obtain ⟨e0, e1, e2, e3, e4⟩ := lCp0 l P Q i
  exact ⟨by rw [hw.cell (by omega), e0], by rw [hw.cell (by omega), e1], by rw [hw.cell (by omega), e2], by rw [hw.cell (by omega), e3], by rw [hw.cell (by omega), e4]⟩
theorem LC.seg {w : World} {lo : Nat} {v : Value} {l : List Lf} {P Q : Nat → Nat} (h : LC w lo v l P Q) {i : Nat} (hi : i < l.length) : SSeg w (some ⟨P i, 0, none⟩) (gL l i).p := by
  obtain ⟨e1, e2, e3, e4, e5⟩ := h.pt i hi
  exact .inr ⟨P i, 0, rfl, e2, fun t ht => by rw [Nat.zero_add]; exact e4.cell ht⟩
theorem LC.lt {w : World} {lo : Nat} {v : Value} {l : List Lf} {P Q : Nat → Nat} (h : LC w lo v l P Q) : ∀ g, v.ownBlock = some g → lo ≤ g ∧ g < w.heap.size := fun g hg => h.row.lt g hg
theorem LC.low {w : World} {lo lo' : Nat} {v : Value} {l : List Lf} {P Q : Nat → Nat} (h : LC w lo v l P Q) (hl : lo' ≤ lo) : LC w lo' v l P Q := ⟨own_weak5 h.row hl, fun i hi => by obtain ⟨e1, e2⟩ := h.pt i hi; exact ⟨Nat.le_trans hl e1, e2⟩⟩
end Go.Proofs.YtakmpmhjcngbbaaGreatDoor
