import Derived.Test.YtakmpmhjcngbbaaGreatDoorMgg15
import Derived.Test.YtakmpmhjcngbbaaGreatDoorMgg04
import Derived.Test.YtakmpmhjcngbbaaGreatDoorMgg05
import Derived.Test.YtakmpmhjcngbbaaGreatDoorMgg02
import Derived.Test.YtakmpmhjcngbbaaGreatDoorMgg08
import Derived.Maps.AppendAt
set_option linter.unusedVariables false
set_option linter.unusedSimpArgs false
set_option maxRecDepth 100000
set_option maxHeartbeats 40000000
namespace Go.Proofs.YtakmpmhjcngbbaaGreatDoor
theorem byt_ofNat {f : Nat → Int} (hf : Byt f) (i : Nat) : ((UInt8.ofNat (f i).toNat).toNat : Int) = f i := by
  have := hf i
  have h : (UInt8.ofNat (f i).toNat).toNat = (f i).toNat := by simp; omega
  rw [h]; omega
theorem strF_size (f : Nat → Int) (p L : Nat) : (strF f p L).size = L := by simp [strF, ByteArray.size]
theorem strInts_strF {f : Nat → Int} (hf : Byt f) (p L : Nat) : strInts (strF f p L) = (List.range L).map fun i => f (p + i) := by
  unfold strInts strF
  simp only [List.map_map]
  apply List.map_congr_left
  intro i _
  exact byt_ofNat hf (p + i)
theorem map_byte_inj : ∀ {a b : List UInt8}, (a.map fun x => (x.toNat : Int)) = (b.map fun x => (x.toNat : Int)) → a = b
  | [], [], _ => rfl
  | [], _ :: _, h => by simp at h
  | _ :: _, [], h => by simp at h
  | x :: a, y :: b, h => by
    simp only [List.map_cons, List.cons.injEq] at h
    have e : x = y := UInt8.toNat_inj.1 (Int.ofNat.inj h.1)
    rw [e, map_byte_inj h.2]
theorem strInts_inj {s t : ByteArray} (h : strInts s = strInts t) : s = t := by
  obtain ⟨⟨s⟩⟩ := s
  obtain ⟨⟨t⟩⟩ := t
  have e : s = t := map_byte_inj h
  rw [e]
theorem strF_at {f : Nat → Int} (hf : Byt f) {p : Nat} {s : ByteArray} (h : At f p (strInts s)) : strF f p s.size = s := by
  apply strInts_inj
  rw [strInts_strF hf]
  apply List.ext_getElem?
  intro i
  by_cases hi : i < s.size
  · have := h i (by rw [strInts_length]; exact hi)
    have h2 : i < (strInts s).length := by rw [strInts_length]; exact hi
    simp [hi, h2, this, List.getD]
  · have h2 : (strInts s).length ≤ i := by rw [strInts_length]; omega
    rw [List.getElem?_eq_none h2, List.getElem?_eq_none (by simp; omega)]
noncomputable def rdTx (f : Nat → Int) (n x : Nat) (most : Int) : Option (ByteArray × Nat) := (rd f n x most).bind fun a => if a.2 + a.1 ≤ n then some (strF f a.2 a.1, a.2 + a.1) else none
theorem rdTx_iff {f : Nat → Int} (hf : Byt f) {n x : Nat} {most : Int} (hm : most ≤ 1000000) {s : ByteArray} {x' : Nat} :
    rdTx f n x most = some (s, x') ↔ (s.size : Int) ≤ most ∧ At f x (textInts s) ∧ x' = x + (textInts s).length ∧ x' ≤ n := by
  unfold rdTx textInts
  constructor
  · intro h
    cases h1 : rd f n x most with
    | none => rw [h1] at h; cases h
    | some a =>
      obtain ⟨V, x1⟩ := a
      rw [h1] at h
      simp only [Option.bind_some] at h
      split at h
      · rename_i hle
        simp only [Option.some.injEq, Prod.mk.injEq] at h
        obtain ⟨rfl, rfl⟩ := h
        obtain ⟨s1, s2, s3, s4, s5⟩ := (rd_iff hf).1 h1
        rw [strF_size, At.app, strInts_strF hf, List.length_append, List.length_map, List.length_range]
        refine ⟨s2, ⟨s3, ?_⟩, by omega, hle⟩
        rw [← s4]
        exact at_range rfl
      · cases h
  · rintro ⟨h1, h2, rfl, h4⟩
    rw [At.app] at h2
    rw [List.length_append, strInts_length] at h4 ⊢
    have hr : rd f n x most = some (s.size, x + (uvF 9 s.size).length) := (rd_iff hf).2 ⟨by omega, h1, h2.1, rfl, by omega⟩
    rw [hr]
    simp only [Option.bind_some]
    rw [if_pos (by omega), strF_at hf h2.2, Nat.add_assoc]
section
variable (f : Nat → Int) (n : Nat) (K : Int → Int → Bool)
noncomputable def rdLf (kind : Int) (p : List ByteArray) (before : Dt) (acc : List Lf) (x : Nat) : Option (Lf × Nat) :=
  (rd f n x 7).bind fun a => (rd f n a.2 1000000000).bind fun b =>
    if yes (cmpDt before ((a.1 : Int), (b.1 : Int)) < 0 ∧ K (a.1 : Int) (b.1 : Int) = true ∧ (∀ y ∈ acc, ¬ (y.r = (a.1 : Int) ∧ y.q = (b.1 : Int))) ∧ acc.length ≠ 1000) = true then
      if kind = 2 then some (⟨p, true, (a.1 : Int), (b.1 : Int), ByteArray.empty⟩, b.2) else (rdTx f n b.2 200).bind fun t => some (⟨p, false, (a.1 : Int), (b.1 : Int), t.1⟩, t.2)
    else none
noncomputable def rdLs (kind : Int) (p : List ByteArray) : Nat → Dt → List Lf → Nat → Option (List Lf × Nat)
  | 0, _, acc, x => some (acc, x)
  | k + 1, before, acc, x => (rdLf f n K kind p before acc x).bind fun a => rdLs kind p k (a.1.r, a.1.q) (acc ++ [a.1]) a.2
noncomputable def rdKy (before : Ky) (x : Nat) : Option (Ky × Nat) := (rdTx f n x 40).bind fun a => if yes (a.1.size ≠ 0 ∧ a.2 < n ∧ cmpK before (a.1, f a.2) < 0) = true then some ((a.1, f a.2), a.2 + 1) else none
noncomputable def rdKd (rec : List ByteArray → List Lf → Nat → Option (List Lf × Nat)) (p : List ByteArray) (y : Ky) (acc : List Lf) (x : Nat) : Option (List Lf × Nat) :=
  if y.2 = 3 then rec (p ++ [y.1]) acc x else if y.2 = 1 ∨ y.2 = 2 then (rd f n x 1000).bind fun a => if a.1 = 0 then none else rdLs f n K y.2 (p ++ [y.1]) a.1 (0, 0) acc a.2 else none
noncomputable def rdKs (rec : List ByteArray → List Lf → Nat → Option (List Lf × Nat)) (p : List ByteArray) : Nat → Ky → List Lf → Nat → Option (List Lf × Nat)
  | 0, _, acc, x => some (acc, x)
  | k + 1, before, acc, x => (rdKy f n before x).bind fun a => (rdKd f n K rec p a.1 acc a.2).bind fun b => rdKs rec p k a.1 b.1 b.2
noncomputable def rdTr : Nat → List ByteArray → List Lf → Nat → Option (List Lf × Nat)
  | 0, _, _, _ => none
  | d + 1, p, acc, x => (rd f n x 1000).bind fun a => if a.1 = 0 then (if p.length = 0 then some (acc, a.2) else none) else if 8 ≤ p.length then none else rdKs f n K (rdTr d) p a.1 (ByteArray.empty, 0) acc a.2
noncomputable def ldLf (fl : Bool) (p : List ByteArray) (x : Nat) : Option (Lf × Nat) :=
  (rd f n x 8).bind fun a => (rd f n a.2 1000000000).bind fun b =>
    if fl = true then some (⟨p, fl, (a.1 : Int), (b.1 : Int), ByteArray.empty⟩, b.2) else (rdTx f n b.2 200).bind fun t => some (⟨p, fl, (a.1 : Int), (b.1 : Int), t.1⟩, t.2)
noncomputable def ldLs (fl : Bool) (p : List ByteArray) : Nat → List Lf → Nat → Option (List Lf × Nat)
  | 0, acc, x => some (acc, x)
  | k + 1, acc, x => (ldLf f n fl p x).bind fun a => ldLs fl p k (acc ++ [a.1]) a.2
noncomputable def ldKd (rec : List ByteArray → List Lf → Nat → Option (List Lf × Nat)) (p : List ByteArray) (y : Ky) (acc : List Lf) (x : Nat) : Option (List Lf × Nat) :=
  if y.2 = 3 then rec (p ++ [y.1]) acc x else if y.2 = 1 ∨ y.2 = 2 then (rd f n x 1000).bind fun a => ldLs f n (decide (y.2 = 2)) (p ++ [y.1]) a.1 acc a.2 else none
noncomputable def ldKs (rec : List ByteArray → List Lf → Nat → Option (List Lf × Nat)) (p : List ByteArray) : Nat → List Lf → Nat → Option (List Lf × Nat)
  | 0, acc, x => some (acc, x)
  | k + 1, acc, x => (rdTx f n x 40).bind fun a => if a.2 < n then (ldKd f n rec p (a.1, f a.2) acc (a.2 + 1)).bind fun b => ldKs rec p k b.1 b.2 else none
noncomputable def ldTr : Nat → List ByteArray → List Lf → Nat → Option (List Lf × Nat)
  | 0, _, _, _ => none
  | d + 1, p, acc, x => (rd f n x 4000).bind fun a => if 8 ≤ p.length then none else ldKs f n (ldTr d) p a.1 acc a.2
end
theorem rd_wide {f : Nat → Int} (hf : Byt f) {n x : Nat} {m m' : Int} (h : m ≤ m') {a : Nat × Nat} (e : rd f n x m = some a) : rd f n x m' = some a := by
  obtain ⟨V, x'⟩ := a
  obtain ⟨h1, h2, h3⟩ := (rd_iff hf).1 e
  exact (rd_iff hf).2 ⟨h1, by omega, h3⟩
section
variable {f : Nat → Int} {n : Nat} {K : Int → Int → Bool}
theorem bind_some_iff {α β : Type} {o : Option α} {g : α → Option β} {b : β} : o.bind g = some b ↔ ∃ a, o = some a ∧ g a = some b := by cases o <;> simp
theorem ldLf_of (hf : Byt f) {kind : Int} (hk : kind = 1 ∨ kind = 2) {p : List ByteArray} {before : Dt} {acc : List Lf} {x : Nat} {a : Lf × Nat} (h : rdLf f n K kind p before acc x = some a) : ldLf f n (decide (kind = 2)) p x = some a := by
  unfold rdLf at h
  obtain ⟨r, hr, h⟩ := bind_some_iff.1 h
  obtain ⟨q, hq, h⟩ := bind_some_iff.1 h
  unfold ldLf
  rw [rd_wide hf (by decide) hr]
  simp only [Option.bind_some]
  rw [hq]
  simp only [Option.bind_some]
  split at h
  · rcases hk with rfl | rfl
    · simpa using h
    · simpa using h
  · cases h
theorem ldLs_of (hf : Byt f) {kind : Int} (hk : kind = 1 ∨ kind = 2) {p : List ByteArray} : ∀ (k : Nat) {before : Dt} {acc : List Lf} {x : Nat} {a : List Lf × Nat}, rdLs f n K kind p k before acc x = some a → ldLs f n (decide (kind = 2)) p k acc x = some a
  | 0, _, _, _, _, h => h
  | k + 1, _, _, _, _, h => by
    unfold rdLs at h
    obtain ⟨b, hb, h⟩ := bind_some_iff.1 h
    unfold ldLs
    rw [ldLf_of hf hk hb]
    exact ldLs_of hf hk k h
theorem ldKd_of (hf : Byt f) {r r' : List ByteArray → List Lf → Nat → Option (List Lf × Nat)} (hr : ∀ p acc x a, r p acc x = some a → r' p acc x = some a) {p : List ByteArray} {y : Ky} {acc : List Lf} {x : Nat} {a : List Lf × Nat} (h : rdKd f n K r p y acc x = some a) : ldKd f n r' p y acc x = some a := by
  unfold rdKd at h
  unfold ldKd
  split at h
  · rename_i h3; rw [if_pos h3]; exact hr _ _ _ _ h
  · rename_i h3
    rw [if_neg h3]
    split at h
    · rename_i h12
      rw [if_pos h12]
      obtain ⟨b, hb, h⟩ := bind_some_iff.1 h
      rw [hb]
      simp only [Option.bind_some]
      split at h
      · cases h
      · exact ldLs_of hf h12 _ h
    · cases h
theorem ldKs_of (hf : Byt f) {r r' : List ByteArray → List Lf → Nat → Option (List Lf × Nat)} (hr : ∀ p acc x a, r p acc x = some a → r' p acc x = some a) {p : List ByteArray} : ∀ (k : Nat) {before : Ky} {acc : List Lf} {x : Nat} {a : List Lf × Nat}, rdKs f n K r p k before acc x = some a → ldKs f n r' p k acc x = some a
  | 0, _, _, _, _, h => h
  | k + 1, _, _, _, _, h => by
    unfold rdKs at h
    obtain ⟨b, hb, h⟩ := bind_some_iff.1 h
    obtain ⟨c, hc, h⟩ := bind_some_iff.1 h
    unfold rdKy at hb
    obtain ⟨t, ht, hb⟩ := bind_some_iff.1 hb
    split at hb
    · rename_i hy
      simp only [Option.some.injEq] at hb
      subst hb
      unfold ldKs
      rw [ht]
      simp only [Option.bind_some]
      rw [if_pos (yes_iff.1 hy).2.1, ldKd_of hf hr hc]
      exact ldKs_of hf hr k h
    · cases hb
theorem ldTr_of (hf : Byt f) : ∀ (d : Nat) {p : List ByteArray} {acc : List Lf} {x : Nat} {a : List Lf × Nat}, rdTr f n K d p acc x = some a → ldTr f n d p acc x = some a
  | 0, _, _, _, _, h => by cases h
  | d + 1, p, acc, x, a, h => by
    unfold rdTr at h
    obtain ⟨b, hb, h⟩ := bind_some_iff.1 h
    unfold ldTr
    rw [rd_wide hf (by decide) hb]
    simp only [Option.bind_some]
    split at h
    · rename_i h0
      split at h
      · rename_i hp
        rw [if_neg (by omega), h0]
        exact h
      · cases h
    · split at h
      · cases h
      · rename_i h8
        rw [if_neg h8]
        exact ldKs_of hf (fun p' acc' x' a' h' => ldTr_of hf d h') _ h
end
end Go.Proofs.YtakmpmhjcngbbaaGreatDoor
namespace Go.Proofs.YtakmpmhjcngbbaaGreatDoor
open Go.ChangeShapes Go.WideShapes Go.ChangeAt Go.RowKit
variable {EX : Nat → Option Value}
def TxP (EX : Nat → Option Value) (f : Nat → Int) (n x : Nat) (most : Int) (cb : Nat) (a : Option Addr) (c : Nat) (w : World) (e : Ending) (w' : World) : Prop := w.grownBy w' (some cb) ∧
  ((∃ s x', rdTx f n x most = some (s, x') ∧ e = .returned (.tuple #[.string s, .nilIface]) ∧ Cur EX w' cb a n c ((x' : Nat) : Int)) ∨
   (rdTx f n x most = none ∧ ∃ (t : TypeId) (v : Value) (y : Int), e = .returned (.tuple #[.string ⟨#[]⟩, .iface t v]) ∧ Cur EX w' cb a n c y))
def TlP (EX : Nat → Option Value) (f : Nat → Int) (n x : Nat) (most : Int) (cb : Nat) (a : Option Addr) (c : Nat) (w : World) (e : Ending) (w' : World) : Prop := w.grownBy w' (some cb) ∧
  ((∃ V q : Nat, rdTx f n x most = some (strF f q V, q + V) ∧ q + V ≤ n ∧ 0 < n ∧ e = .returned (.tuple #[.int .i64 (V : Int), .nilIface]) ∧ Cur EX w' cb a n c (q : Int)) ∨
   (rdTx f n x most = none ∧ ∃ (t : TypeId) (v : Value) (y : Int), e = .returned (.tuple #[.int .i64 0, .iface t v]) ∧ Cur EX w' cb a n c y))
theorem rd_ends {f : Nat → Int} (hf : Byt f) {n x : Nat} {most : Int} {V q : Nat} (h : rd f n x most = some (V, q)) : q ≤ n ∧ 0 < q := by
  obtain ⟨_, _, _, h4, h5⟩ := (rd_iff hf).1 h
  have : 0 < (uvF 9 V).length := by
    cases e : uvF 9 V with
    | nil => unfold uvF at e; split at e <;> cases e
    | cons a l => simp
  omega
theorem textLenE (cb B : Nat) (a : Option Addr) (n c x : Nat) (most : Int) (f : Nat → Int) (aT aS aL aE : Addr) (w : World) (hn : n ≤ 1048576) (hf : Byt f) (h : Seg w a n f) (hcur : Cur EX w cb a n c (x : Int)) (hE : Errs w B aT aS aL aE) (hBc : B ≤ cb) (hne : ∀ y, a = some y → y.block ≠ cb) (hm0 : 0 ≤ most) (hm1 : most ≤ 1000000) :
    Calls Tryz.prog 101 #[.pointer (some ⟨cb, 0, none⟩), .int .i64 most] w fun e w' => TlP EX f n x most cb a c w e w' := by
  have HU := hid (uvC cb B a n c (x : Int) f aT aS aL aE w hn hf hcur h hne hE hBc)
  have HE := hid hE
  have HF := hid hf
  have hcl := hcur.lt
  have hBw : B ≤ w.heap.size := by omega
  clear h hcur hE hf
  go_enter Tryz.func101, Tryz.ntmps101
  go_wp2_with fail
  refine HU.out.mono ?_
  rintro e w1 ⟨g1, hres⟩
  have HGr := hid g1
  have HE1 := hid (HE.out.below ((Below.refl B w).grown g1 (by omega) (fun k hk => by injection hk with hk; omega)))
  clear g1 HU HE
  rcases hres with ⟨V, q, hV64, hrd, rfl, cu⟩ | ⟨hrd, t, v, y, rfl, cu⟩
  · have hr0 := hrd most
    rw [rdI_nat] at hr0
    have HR0 := hid hr0
    have hq : q ≤ n ∧ 0 < q := by
      have := hrd 18446744073709551616
      rw [rdI_nat, if_pos (by omega)] at this
      exact rd_ends HF.out this
    clear hrd hr0
    have HCu := hid cu
    obtain ⟨k0, k1, k2, k3⟩ := cu
    clear k3
    obtain ⟨M, rfl⟩ : ∃ M : Nat, most = (M : Int) := ⟨most.toNat, by omega⟩
    have hwm : IntKind.u64.wrap (M : Int) = (M : Int) := by rw [IntKind.wrap_u64]; omega
    have hd1 : decide ((M : Int) < 0) = false := by simp
    by_cases h2 : M < V
    · have HN : Hid (rdTx f n x (M : Int) = none) := hid (by unfold rdTx; rw [HR0.out, if_neg (by omega)]; rfl)
      obtain ⟨lv, gL⟩ := HE1.out.x0
      clear k0 k1 k2 HR0
      go_wp2_with fail
      go_quiet (fail)
      go_wp2_with fail
      go_ret2
      exact ⟨HGr.out.andThen (grown_drewN _ _ _) (fun j hj => .inr hj), .inr ⟨HN.out, _, _, _, rfl, HCu.out⟩⟩
    obtain ⟨r, hr⟩ : ∃ r : Nat, (r : Int) = (n : Int) - (q : Int) := ⟨n - q, by omega⟩
    have hwr : IntKind.u64.wrap (IntKind.i64.wrap ((n : Int) - (q : Int))) = (r : Int) := by rw [wrapIn _ (by omega) (by omega), IntKind.wrap_u64]; omega
    have hwr2 : IntKind.u64.wrap ((n : Int) - (q : Int)) = (r : Int) := by rw [IntKind.wrap_u64]; omega
    by_cases h3 : r < V
    · have HN : Hid (rdTx f n x (M : Int) = none) := hid (by
        unfold rdTx
        rw [HR0.out, if_pos (by omega)]
        show (if q + V ≤ n then some (strF f q V, q + V) else none) = none
        rw [if_neg (by omega)])
      have gE := HE1.out.gE
      clear HR0
      go_wp2_with fail
      go_quiet (fail)
      go_wp2_with fail
      go_quiet (fail)
      go_wp2_with fail
      go_ret2
      simp only [World.drewN_drewN]
      exact ⟨HGr.out.andThen (grown_drewN _ _ _) (fun j hj => .inr hj), .inr ⟨HN.out, _, _, _, rfl, HCu.out⟩⟩
    have HN : Hid (rdTx f n x (M : Int) = some (strF f q V, q + V)) := hid (by
      unfold rdTx
      rw [HR0.out, if_pos (by omega)]
      show (if q + V ≤ n then some (strF f q V, q + V) else none) = _
      rw [if_pos (by omega)])
    have hwV : IntKind.i64.wrap (V : Int) = (V : Int) := wrapIn _ (by omega) (by omega)
    have HQ : Hid (q + V ≤ n ∧ 0 < n) := hid ⟨by omega, by omega⟩
    clear HR0
    go_wp2_with fail
    go_quiet (fail)
    go_wp2_with fail
    go_ret2
    exact ⟨HGr.out.andThen (grown_drewN _ _ _) (fun j hj => .inr hj), .inl ⟨V, q, HN.out, HQ.out.1, HQ.out.2, rfl, HCu.out⟩⟩
  · have HN : Hid (rdTx f n x most = none) := hid (by unfold rdTx; rw [← rdI_nat, hrd most]; rfl)
    have HCu := hid cu
    clear hrd cu
    go_wp2_with fail
    go_ret2
    exact ⟨HGr.out, .inr ⟨HN.out, _, _, _, rfl, HCu.out⟩⟩
theorem textE (cb B : Nat) (a : Option Addr) (n c x : Nat) (most : Int) (f : Nat → Int) (aT aS aL aE : Addr) (w : World) (hn : n ≤ 1048576) (hnc : n ≤ c) (hcc : c ≤ 4611686018427387904) (hf : Byt f) (h : Seg w a n f) (hcur : Cur EX w cb a n c (x : Int)) (hE : Errs w B aT aS aL aE) (hBc : B ≤ cb) (hne : ∀ y, a = some y → y.block ≠ cb) (hm0 : 0 ≤ most) (hm1 : most ≤ 1000000) :
    Calls Tryz.prog 86 #[.pointer (some ⟨cb, 0, none⟩), .int .i64 most] w fun e w' => TxP EX f n x most cb a c w e w' := by
  have HU := hid (textLenE cb B a n c x most f aT aS aL aE w hn hf h hcur hE hBc hne hm0 hm1)
  have hcl := hcur.lt
  have HH := hid h
  have HF := hid hf
  obtain ⟨k0, k1, k2, k3⟩ := hcur
  clear h hE hf k3
  go_enter Tryz.func86, Tryz.ntmps86
  go_wp2_with fail
  refine HU.out.mono ?_
  rintro e w1 ⟨g1, hTL⟩
  have HGr := hid g1
  have z1 := g1.size
  clear g1 HU k0 k1 k2
  have al := fun (o : Obj) => (Below.refl w1.heap.size w1).alloc (Nat.le_refl _) o
  rcases hTL with ⟨V, q, hE4, hqV, hn0, rfl, cu⟩ | ⟨hN, t, v, y, rfl, cu⟩
  rotate_left
  · have HN := hid hN
    have HC := hid cu
    clear hN cu
    go_wp2_with fail
    go_ret2
    exact ⟨grown_below HGr.out (al _), .inr ⟨HN.out, _, _, _, rfl, HC.out.below (al _) HC.out.lt⟩⟩
  · have HE4 := hid hE4
    clear hE4
    have HC := hid cu
    obtain ⟨k0, k1, k2, k3⟩ := cu
    have hwV : IntKind.i64.wrap (V : Int) = (V : Int) := wrapIn _ (by omega) (by omega)
    have hws : IntKind.i64.wrap ((q : Int) + (V : Int)) = (q : Int) + (V : Int) := wrapIn _ (by omega) (by omega)
    obtain ⟨W, hW⟩ : ∃ W, w1.setCell ⟨cb, 1, none⟩ (.int .i64 ((q : Int) + (V : Int))) = W := ⟨_, rfl⟩
    rcases HH.out with h | ⟨b, off, rfl, hb, hc⟩
    · omega
    have hbc := hne _ rfl
    have cu2 : Cur EX W cb (some ⟨b, off, none⟩) n c ((q : Int) + (V : Int)) := by rw [← hW]; exact HC.out.set _
    have HCu2 := hid cu2
    obtain ⟨j0, j1, j2, j3⟩ := cu2
    have hgW := hid (show w.grownBy W (some cb) from by rw [← hW]; exact grown_trans HGr.out (grown_set (grown_refl _ _) _))
    have hcs : ∀ i, i < V → W.cell? ⟨b, off + q + i, none⟩ = some (.int .u8 (f (q + i))) := fun i hi => by
      rw [World.cell?_of_block (hgW.out.block b hb (by simp; exact hbc)), Nat.add_assoc]; exact hc (q + i) (by omega)
    have hcv : ∀ k cap, (convert 22 9 (.slice (some ⟨b, off + q, none⟩) V cap)).run Tryz.prog (W.drewN k) = .ok (.string (strF f q V)) (W.drewN k) := fun k cap => strF_conv HF.out (fun i hi => hcs i hi)
    clear hc hcs
    have hq0 : (0 : Int) ≤ (q : Int) := Int.natCast_nonneg _
    have hqs : (q : Int) ≤ (q : Int) + (V : Int) := by omega
    have hsc : (q : Int) + (V : Int) ≤ (c : Int) := by omega
    clear k3 j3
    have HQ : Hid (((q + V : Nat) : Int) = (q : Int) + (V : Int)) := hid (by push_cast; rfl)
    by_cases hcq : q < c
    · go_wp2_with fail
      try rw [hW]
      clear hW
      go_quiet (fail)
      go_wp2_with fail
      go_ret2
      exact ⟨hgW.out.andThen (grown_drewN _ _ _) (fun j hj => .inr hj), .inl ⟨_, _, HE4.out, rfl, by rw [HQ.out]; exact HCu2.out⟩⟩
    · have hV0 : V ≤ 0 := by omega
      have hcq2 : c ≤ q := by omega
      have hcv0 : ∀ k ad cap, (convert 22 9 (.slice (some ad) V cap)).run Tryz.prog (W.drewN k) = .ok (.string (strF f q V)) (W.drewN k) := fun k ad cap => by
        obtain rfl : V = 0 := by omega
        exact strF_none (w := W.drewN k) ad q cap f
      clear hcv
      go_wp2_with fail
      try rw [hW]
      clear hW
      go_quiet (fail)
      go_wp2_with fail
      go_ret2
      exact ⟨hgW.out.andThen (grown_drewN _ _ _) (fun j hj => .inr hj), .inl ⟨_, _, HE4.out, rfl, by rw [HQ.out]; exact HCu2.out⟩⟩
variable {EX : Nat → Option Value}
theorem Seg.grown {w w1 : World} {a : Option Addr} {n cb : Nat} {f : Nat → Int} (h : Seg w a n f) (g : w.grownBy w1 (some cb)) (hab : ∀ y, a = some y → y.block ≠ cb) : Seg w1 a n f := by
  rcases h with h | ⟨b, off, rfl, hb, hc⟩
  · exact .inl h
  · refine .inr ⟨b, off, rfl, Nat.lt_of_lt_of_le hb g.size, fun i hi => ?_⟩
    rw [World.cell?_of_block (g.block b hb (by have := hab _ rfl; simpa using this))]
    exact hc i hi
theorem Errs.grown {w w1 : World} {B cb : Nat} {aT aS aL aE : Addr} (h : Errs w B aT aS aL aE) (g : w.grownBy w1 (some cb)) (hBc : B ≤ cb) (hcl : cb < w.heap.size) : Errs w1 B aT aS aL aE :=
  h.below ((Below.refl B w).grown g (by omega) (fun k hk => by injection hk with hk; omega))
noncomputable def rdSpan (f : Nat → Int) (n : Nat) (least : Int) (x : Nat) : Option ((Int × Int) × Nat) :=
  (rd f n x (1000000000 - least)).bind fun a => (rd f n a.2 (1000000000 - (least + (a.1 : Int)))).bind fun b => some ((least + (a.1 : Int), least + (a.1 : Int) + (b.1 : Int)), b.2)
theorem rdSpans_succ (f : Nat → Int) (n k : Nat) (least : Int) (x : Nat) : rdSpans f n (k + 1) least x = (rdSpan f n least x).bind fun a => (rdSpans f n k (a.1.2 + 2) a.2).bind fun b => some (a.1 :: b.1, b.2) := by
  unfold rdSpan
  rw [rdSpans]
  cases h1 : rd f n x (1000000000 - least) with
  | none => rfl
  | some a =>
    simp only [Option.bind_eq_bind, Option.bind_some]
    cases h2 : rd f n a.2 (1000000000 - (least + (a.1 : Int))) with
    | none => rfl
    | some b => rfl
theorem box2 {w w2 : World} {cb n c : Nat} {a : Option Addr} {y : Int} {u0 u1 : Value} (v0 v1 : Value) (g : w.grownBy w2 (some cb)) (cu : Cur EX w2 cb a n c y) (hcl : cb < w.heap.size)
    (k0 : w2.cell? ⟨w.heap.size, 0, none⟩ = some u0) (k1 : w2.cell? ⟨w.heap.size, 1, none⟩ = some u1) :
    ∃ Z, Z = (w2.setCell ⟨w.heap.size, 0, none⟩ v0).setCell ⟨w.heap.size, 1, none⟩ v1 ∧ Z.cell? ⟨w.heap.size, 0, none⟩ = some v0 ∧ Z.cell? ⟨w.heap.size, 1, none⟩ = some v1 ∧ w.grownBy Z (some cb) ∧ Cur EX Z cb a n c y := by
  refine ⟨_, rfl, ?_, ?_, ?_, ?_, ?_, ?_⟩
  · rw [World.cell?_setCell_other _ _ _ _ (by simp)]
    exact World.cell?_setCell_same _ _ _ k0
  · have k1' : (w2.setCell ⟨w.heap.size, 0, none⟩ v0).cell? ⟨w.heap.size, 1, none⟩ = some u1 := by
      rw [World.cell?_setCell_other _ _ _ _ (by simp)]; exact k1
    exact World.cell?_setCell_same _ _ _ k1'
  · refine ⟨g.os, g.tape, g.output, ?_, fun k hk hne => ?_⟩
    · have := g.size; simpa [World.setCell] using this
    · exact ((Below.heap_setCell _ _ _ _ (fun e => by first | omega | (simp at e; omega))).trans (Below.heap_setCell _ _ _ _ (fun e => by first | omega | (simp at e; omega)))).trans (g.block k hk hne)
  · rw [World.cell?_setCell_far _ _ _ _ (by simp; omega), World.cell?_setCell_far _ _ _ _ (by simp; omega)]; exact cu.1
  · rw [World.cell?_setCell_far _ _ _ _ (by simp; omega), World.cell?_setCell_far _ _ _ _ (by simp; omega)]; exact cu.2.1
  · rw [World.frozen?_setCell, World.frozen?_setCell]
    exact ⟨cu.2.2.1, fun i hi => by rw [World.cell?_setCell_far _ _ _ _ (by simp; omega), World.cell?_setCell_far _ _ _ _ (by simp; omega), World.frozen?_setCell, World.frozen?_setCell]; exact cu.2.2.2 i hi⟩
theorem spanC (cb B : Nat) (a : Option Addr) (n c x : Nat) (least : Int) (f : Nat → Int) (aT aS aL aE : Addr) (w : World) (hn : n ≤ 1048576) (hf : Byt f) (hcur : Cur EX w cb a n c (x : Int)) (hs : Seg w a n f) (hab : ∀ y, a = some y → y.block ≠ cb) (hE : Errs w B aT aS aL aE) (hBc : B ≤ cb)
    (hl0 : 1 ≤ least) (hl1 : least ≤ 1000000002) :
    Calls Tryz.prog 100 #[.pointer (some ⟨cb, 0, none⟩), .int .i64 least] w fun e w' => w.grownBy w' (some cb) ∧
      ((∃ (s t : Int) (x' : Nat), rdSpan f n least x = some ((s, t), x') ∧ least ≤ s ∧ s ≤ t ∧ t ≤ 1000000000 ∧ e = .returned (.tuple #[.agg #[.int .i64 s, .int .i64 t], .nilIface]) ∧ Cur EX w' cb a n c (x' : Int)) ∨
       (rdSpan f n least x = none ∧ ∃ (t : TypeId) (v : Value) (y : Int), e = .returned (.tuple #[.agg #[.int .i64 0, .int .i64 0], .iface t v]) ∧ Cur EX w' cb a n c y)) := by
  have hcl := hcur.lt
  obtain ⟨W, hW⟩ : ∃ W, w.alloc (.cells #[.int .i64 0, .int .i64 0] 130) = W := ⟨_, rfl⟩
  have bW : Below w.heap.size w W := by rw [← hW]; exact (Below.refl _ _).alloc (Nat.le_refl _) _
  have zW : W.heap.size = w.heap.size + 1 := by rw [← hW]; simp
  have gW : w.grownBy W (some cb) := grown_below (grown_refl w (some cb)) bW
  have HB : Hid (∀ w1, W.grownBy w1 (some cb) → w1.cell? ⟨w.heap.size, 0, none⟩ = some (.int .i64 0) ∧ w1.cell? ⟨w.heap.size, 1, none⟩ = some (.int .i64 0) ∧ w1.frozen? ⟨w.heap.size, 0, none⟩ = false ∧ w1.frozen? ⟨w.heap.size, 1, none⟩ = false) := by
    intro w1 g
    have hb := g.block w.heap.size (by omega) (by simp; omega)
    refine ⟨?_, ?_, ?_, ?_⟩
    · rw [World.cell?_of_block hb, ← hW]; simp
    · rw [World.cell?_of_block hb, ← hW]; simp
    · have e : w1.frozen? ⟨w.heap.size, 0, none⟩ = W.frozen? ⟨w.heap.size, 0, none⟩ := by unfold World.frozen?; rw [hb]
      rw [e, ← hW]; simp
    · have e : w1.frozen? ⟨w.heap.size, 1, none⟩ = W.frozen? ⟨w.heap.size, 1, none⟩ := by unfold World.frozen?; rw [hb]
      rw [e, ← hW]; simp
  have hclW : cb < W.heap.size := by omega
  have HU := hid (numberC cb B a n c x (1000000000 - least) f aT aS aL aE W hn hf (hcur.below bW hcl) (hs.grown gW hab) hab (hE.grown gW hBc hcl) hBc (by omega) (by omega))
  have HE := hid (hE.grown gW hBc hcl)
  have HS := hid (hs.grown gW hab)
  have HW := hid gW
  have e0 : IntKind.i64.wrap (1000000000 - least) = 1000000000 - least := wrapIn _ (by omega) (by omega)
  clear hE hcur hs gW bW
  go_enter Tryz.func100, Tryz.ntmps100
  go_wp2_with fail
  try rw [e0]
  try rw [hW]
  clear hW
  refine HU.out.mono ?_
  rintro e w1 ⟨g1, ⟨V, x1, hr, hV, rfl, cu⟩ | ⟨hr, t, v, y, rfl, cu⟩⟩
  · rw [rdI_nat] at hr
    have HU2 := hid (numberC cb B a n c x1 (1000000000 - (least + (V : Int))) f aT aS aL aE w1 hn hf cu (HS.out.grown g1 hab) hab (HE.out.grown g1 hBc hclW) hBc (by omega) (by omega))
    have HG := hid g1
    have HR := hid hr
    have e1 : IntKind.i64.wrap (least + (V : Int)) = least + (V : Int) := wrapIn _ (by omega) (by omega)
    have e2 : IntKind.i64.wrap (1000000000 - (least + (V : Int))) = 1000000000 - (least + (V : Int)) := wrapIn _ (by omega) (by omega)
    clear g1 hr cu HU HE
    go_wp2_with fail
    try rw [e2]
    refine HU2.out.mono ?_
    rintro e w2 ⟨g2, ⟨M, x2, hr2, hM, rfl, cu2⟩ | ⟨hr2, t, v, y, rfl, cu2⟩⟩
    · rw [rdI_nat] at hr2
      obtain ⟨k0, k1, z0, z1⟩ := HB.out _ (grown_trans HG.out g2)
      have HG2 := hid (grown_trans HW.out (grown_trans HG.out g2))
      have HR2 := hid hr2
      have HC2 := hid cu2
      have e3 : IntKind.i64.wrap (least + (V : Int) + (M : Int)) = least + (V : Int) + (M : Int) := wrapIn _ (by omega) (by omega)
      clear g2 hr2 cu2 HU2
      go_wp2_with fail
      obtain ⟨Z, hZ, q0, q1, HZ, HC3⟩ := box2 (.int .i64 (least + (V : Int))) (.int .i64 (least + (V : Int) + (M : Int))) HG2.out HC2.out hcl k0 k1
      rw [← hZ]
      clear hZ
      refine bodyPost_ret (v := .tuple #[.agg #[.int .i64 (least + (V : Int)), .int .i64 (least + (V : Int) + (M : Int))], .nilIface]) (by simp [results, Tryz.results100, go_sem, q0, q1]) rfl ⟨HZ, .inl ⟨least + (V : Int), least + (V : Int) + (M : Int), x2, ?_, by omega, by omega, by omega, rfl, HC3⟩⟩
      unfold rdSpan
      rw [HR.out]
      simp only [Option.bind_some]
      rw [HR2.out]
      rfl
    · rw [rdI_nat] at hr2
      obtain ⟨k0, k1, z0, z1⟩ := HB.out _ (grown_trans HG.out g2)
      have HG2 := hid (grown_trans HW.out (grown_trans HG.out g2))
      have HR2 := hid hr2
      have HC2 := hid cu2
      clear g2 hr2 cu2 HU2
      go_wp2_with fail
      obtain ⟨Z, hZ, q0, q1, HZ, HC3⟩ := box2 (.int .i64 0) (.int .i64 0) HG2.out HC2.out hcl k0 k1
      rw [← hZ]
      clear hZ
      refine bodyPost_ret (v := .tuple #[.agg #[.int .i64 0, .int .i64 0], .iface t v]) (by simp [results, Tryz.results100, go_sem, q0, q1]) rfl ⟨HZ, .inr ⟨?_, _, _, _, rfl, HC3⟩⟩
      unfold rdSpan
      rw [HR.out]
      simp only [Option.bind_some]
      rw [HR2.out]
      rfl
  · rw [rdI_nat] at hr
    obtain ⟨k0, k1, z0, z1⟩ := HB.out _ g1
    have HG := hid (grown_trans HW.out g1)
    have HR := hid hr
    have HC := hid cu
    clear g1 hr cu HU HE
    go_wp2_with fail
    obtain ⟨Z, hZ, q0, q1, HZ, HC3⟩ := box2 (.int .i64 0) (.int .i64 0) HG.out HC.out hcl k0 k1
    rw [← hZ]
    clear hZ
    refine bodyPost_ret (v := .tuple #[.agg #[.int .i64 0, .int .i64 0], .iface t v]) (by simp [results, Tryz.results100, go_sem, q0, q1]) rfl ⟨HZ, .inr ⟨?_, _, _, _, rfl, HC3⟩⟩
    unfold rdSpan
    rw [HR.out]
    rfl
theorem wpList_app_at {P : Program} {w : World} {ops : Array Oper} {rest : List Oper} {o : Oper} {a : Act} {Q : Exit → Act → World → Prop} (hgd : o.guard = none) (s x : Operand) (t : TypeId)
    (ho : o.op = .call { callee := .builtin .append, args := #[s, x], argTypes := #[t, t] })
    (base : Nat) (e : TypeId) (i : TypeInfo) (z : Value) (size bytes : Nat) (ht : P.underlying t = some (.slice e)) (hi : P.info? e = some i) (hz : i.zero = some z)
    (hsize : i.size = size) (hby : i.bytes = bytes) (hzs : z.cells.size = size) (hsz : 0 < size)
    (v : Value) (n : Nat) (xs : List Value) (hs : a.eval s = v) (hown : w.ownsRow base e size v n xs)
    (ad : Addr) (m c : Nat) (news : List Value) (hx : a.eval x = .slice (some ad) m c) (hl : news.length = m * size) (hnews : ∀ j u, news[j]? = some u → w.cell? (ad.add j) = some u) (h1 : ∀ u ∈ news, u.oneCell' = true)
    (h63 : n + m ≤ maxLen) (hbytes : (n + m) * bytes ≤ 140737488355328) (hbase : base ≤ w.heap.size)
    (h : ∀ v' w', w'.ownsRow base e size v' (n + m) (xs ++ news) → w.grownBy w' v.ownBlock → (v'.ownBlock = v.ownBlock ∨ v'.ownBlock = some w.heap.size) → wpList P ops Q rest (a.put o.dst v') w') : wpList P ops Q (o :: rest) a w :=
  wpList_plain hgd fun _ hK => wp_app_at s x t ho base e i z size bytes ht hi hz hsize hby hzs hsz v n xs hs hown ad m c news hx hl hnews h1 h63 hbytes hbase fun v' w' h2 h3 h4 => hK _ _ (h v' w' h2 h3 h4)
structure Gr (w w' : World) (b0 b : Value) : Prop where
  g : w.grownBy w' b0.ownBlock
  l : b.ownBlock = b0.ownBlock ∨ ∃ k, b.ownBlock = some k ∧ w.heap.size ≤ k
theorem Gr.refl (w : World) (b : Value) : Gr w w b b := ⟨⟨rfl, rfl, rfl, Nat.le_refl _, fun _ _ _ => rfl⟩, .inl rfl⟩
theorem Gr.trans {w w1 w2 : World} {b0 b1 b2 : Value} (h1 : Gr w w1 b0 b1) (h2 : Gr w1 w2 b1 b2) : Gr w w2 b0 b2 := by
  refine ⟨h1.g.andThen h2.g (fun j hj => ?_), ?_⟩
  · rcases h1.l with e | ⟨k, e, hk⟩
    · exact .inr (e ▸ hj)
    · rw [e] at hj; injection hj with hj; exact .inl (by omega)
  · rcases h2.l with e | ⟨k, e, hk⟩
    · rw [e]; exact h1.l
    · exact .inr ⟨k, e, Nat.le_trans h1.g.size hk⟩
theorem Gr.app {w w1 : World} {b b' : Value} (h : w.grownBy w1 b.ownBlock) (hl : b'.ownBlock = b.ownBlock ∨ b'.ownBlock = some w.heap.size) : Gr w w1 b b' :=
  ⟨h, hl.imp id (fun e => ⟨_, e, Nat.le_refl _⟩)⟩
theorem Gr.below {w w1 : World} {b b' : Value} {B : Nat} (h : Gr w w1 b b') (hB : B ≤ w.heap.size) (hb : ∀ k, b.ownBlock = some k → B ≤ k) : Below B w w1 :=
  (Below.refl B w).grown h.g hB hb
theorem Gr.of_below {w w1 : World} {b : Value} (h : Below w.heap.size w w1) : Gr w w1 b b :=
  ⟨⟨h.os, h.tape, h.output, h.size, fun k hk _ => h.block k hk⟩, .inl rfl⟩
end Go.Proofs.YtakmpmhjcngbbaaGreatDoor
