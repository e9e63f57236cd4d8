import Derived.Test.YtcbcabhjododoaaGreatFg33
import Derived.Test.YtcbcabhjododoaaGreatFg16
import Derived.Test.YtcbcabhjododoaaGreatFg28
set_option linter.unusedVariables false
set_option linter.unusedSimpArgs false
set_option maxRecDepth 100000
set_option maxHeartbeats 40000000
namespace Go.Proofs.YtcbcabhjododoaaGreat
open Go.ChangeShapes Go.WideShapes Go.ChangeAt Go.RowKit Go.Maps
theorem GrpAt.stepS {w w1 w2 w3 : World} {bm n : Nat} {D : DataW Value} {G : Int → Value} {L : Int → List (Int × Int)} {v' : Value} {r : Int} {l' : List (Int × Int)} (h : GrpAt w bm n D G L)
  (hb : Below w.heap.size w w1) (hown : SR w2 (bm + 1) v' l') (hne : l' ≠ [])
  (hgr : Gr w1 w2 (G r) v')
  (hD : w3.ownsMap Tryz.prog 3 rawR bm (n + 1) (D.put (kI r) (.held v'))) (hgr3 : w2.grownBy w3 (some bm)) :
  GrpAt w3 bm (n + 1) (D.put (kI r) (.held v')) (upd G r v') (upd L r l') := by
 have h1 := h.below hb
 have nb : ∀ (w : World) (v : Value) (m : Nat) (xs : List Value), w.ownsRow (bm + 1) 135 2 v m xs → v.ownBlock = none ∨ v.ownBlock ≠ some bm := by
  intro w v m xs ho
  cases e : v.ownBlock with
  | none => exact .inl rfl
  | some g => exact .inr (fun e2 => by have := (ho.lt g e).1; injection e2 with e2; omega)
 refine ⟨hD, fun x => ?_, fun x => ?_, fun x => ?_, ?_⟩
 ·by_cases e : x = r
  ·subst e; rw [upd_same, atKey_put_same h.own.isMap (show WideAt.IsKeyLit (kI x) from trivial)]
  ·rw [upd_other G v' e, atKey_put_other (kI_ne e)]; exact h.at' x
 ·by_cases e : x = r
  ·subst e; rw [upd_same, has_put_same h.own.isMap (show WideAt.IsKeyLit (kI x) from trivial)]
   cases l' with
   | nil => exact absurd rfl hne
   | cons a b => rfl
  ·rw [upd_other L _ e, has_put_other (kI_ne e)]; exact h.has' x
 ·by_cases e : x = r
  ·subst e
   rw [upd_same, upd_same]
   exact World.ownsRow.kept hown hgr3 (nb _ _ _ _ hown)
  ·rw [upd_other G v' e, upd_other L _ e]
   have hx := h1.rows x
   have hk : (G x).ownBlock = none ∨ (G x).ownBlock ≠ (G r).ownBlock := by
    cases e1 : (G x).ownBlock with
    | none => exact .inl rfl
    | some g => exact .inr (fun e2 => e (h.apart x r g e1 e2.symm))
   have h2 := hx.kept hgr.g hk
   exact h2.kept hgr3 (nb _ _ _ _ h2)
 ·intro x y g hx hy
  have key : ∀ z, z ≠ r → ∀ g, (G z).ownBlock = some g → v'.ownBlock = some g → False := by
   intro z hz g h1' h2'
   rcases hgr.l with hl | ⟨k, hl, hk⟩
   ·exact hz (h.apart z r g h1' (hl ▸ h2'))
   ·rw [hl] at h2'
    have a1 := ((h.rows z).lt g h1').2
    have a2 := hb.size
    injection h2' with h2'
    omega
  by_cases ex : x = r
  ·subst ex
   rw [upd_same] at hx
   by_cases ey : y = x
   ·exact ey.symm
   ·rw [upd_other G v' ey] at hy; exact (key y ey g hy hx).elim
  ·rw [upd_other G v' ex] at hx
   by_cases ey : y = r
   ·subst ey; rw [upd_same] at hy; exact (key x ex g hx hy).elim
   ·rw [upd_other G v' ey] at hy; exact h.apart x y g hx hy
structure RdI (L : Int → List (Int × Int)) (ds : List Dt) : Prop where
 srt : ∀ r, Srt (L r)
 mem : ∀ r x, In (L r) x ↔ (r, x) ∈ ds
 last : ∀ r, ∀ q ∈ L r, ∃ d ∈ ds, d.1 = r ∧ q.2 = d.2
 len : ∀ r, (L r).length ≤ ds.length
theorem RdI.nil : RdI (fun _ => []) [] := ⟨fun _ => ⟨List.Pairwise.nil, fun p h => (by cases h)⟩, fun r x => by simp [In], fun r q h => (by cases h), fun r => by simp⟩
theorem nil_or_snoc {α : Type} (l : List α) : l = [] ∨ ∃ l' q, l = l' ++ [q] := by
 rcases List.eq_nil_or_concat l with h | ⟨l', q, h⟩
 ·exact .inl h
 ·exact .inr ⟨l', q, by rw [h]; simp⟩
theorem appS_len (l : List (Int × Int)) (p : Int × Int) : (appS l p).length ≤ l.length + 1 ∧ appS l p ≠ [] := by
 rcases nil_or_snoc l with rfl | ⟨l, q, rfl⟩
 ·simp [appS_nil]
 ·by_cases h : q.2 + 1 < p.1
  ·rw [appS_gap h]; simp
  ·rw [appS_up h]; simp
theorem appS_last {l : List (Int × Int)} {p : Int × Int} : ∀ q ∈ appS l p, q ∈ l ∨ q.2 = p.2 ∨ ∃ q' ∈ l, q.2 = q'.2 := by
 rcases nil_or_snoc l with rfl | ⟨l, q, rfl⟩
 ·intro q hq; rw [appS_nil] at hq; rw [List.mem_singleton.1 hq]; exact .inr (.inl rfl)
 ·intro u hu
  by_cases h : q.2 + 1 < p.1
  ·rw [appS_gap h] at hu
   rcases List.mem_append.1 hu with hu | hu
   ·exact .inl hu
   ·rw [List.mem_singleton.1 hu]; exact .inr (.inl rfl)
  ·rw [appS_up h] at hu
   rcases List.mem_append.1 hu with hu | hu
   ·exact .inl (List.mem_append_left _ hu)
   ·rw [List.mem_singleton.1 hu]
    rcases Int.le_total q.2 p.2 with e | e
    ·exact .inr (.inl (by simp only; omega))
    ·exact .inr (.inr ⟨q, by simp, by simp only; omega⟩)
theorem RdI.step {L : Int → List (Int × Int)} {ds : List Dt} {d : Dt} (h : RdI L ds) (hd : 1 ≤ d.2 ∧ d.2 ≤ 1000000000) (hle : ∀ e ∈ ds, e.1 = d.1 → e.2 ≤ d.2) : RdI (upd L d.1 (appS (L d.1) (d.2, d.2))) (ds ++ [d]) := by
 have hlast : ∀ q ∈ L d.1, q.1 ≤ d.2 := fun q hq => by
  obtain ⟨e, he, e1, e2⟩ := h.last d.1 q hq
  have := hle e he e1
  have := ((h.srt d.1).2 q hq)
  omega
 have ho := appS_ok (p := (d.2, d.2)) (h.srt d.1) ⟨hd.1, Int.le_refl _, hd.2⟩ hlast
 refine ⟨fun r => ?_, fun r x => ?_, fun r q hq => ?_, fun r => ?_⟩
 ·by_cases e : r = d.1
  ·rw [e, upd_same]; exact ho.1
  ·rw [upd_other L _ e]; exact h.srt r
 ·by_cases e : r = d.1
  ·rw [e, upd_same, ho.2.1 x, h.mem, List.mem_append, List.mem_singleton]
   refine or_congr Iff.rfl ⟨fun hx => ?_, fun hx => ?_⟩
   ·simp only at hx
    exact Prod.ext rfl (by simp only; omega)
   ·have := congrArg Prod.snd hx
    simp only at this ⊢; omega
  ·rw [upd_other L _ e, h.mem, List.mem_append, List.mem_singleton]
   exact ⟨.inl, fun hx => hx.resolve_right (fun e2 => e (congrArg Prod.fst e2))⟩
 ·by_cases e : r = d.1
  ·rw [e, upd_same] at hq
   rcases appS_last q hq with h1 | h1 | ⟨q', h1, h2⟩
   ·obtain ⟨u, hu, e1, e2⟩ := h.last d.1 q h1
    exact ⟨u, List.mem_append_left _ hu, e1.trans e.symm, e2⟩
   ·exact ⟨d, by simp, e.symm, h1⟩
   ·obtain ⟨u, hu, e1, e2⟩ := h.last d.1 q' h1
    exact ⟨u, List.mem_append_left _ hu, e1.trans e.symm, h2.trans e2⟩
  ·rw [upd_other L _ e] at hq
   obtain ⟨u, hu, e1, e2⟩ := h.last r q hq
   exact ⟨u, List.mem_append_left _ hu, e1, e2⟩
 ·rw [List.length_append]
  by_cases e : r = d.1
  ·rw [e, upd_same]
   have := (appS_len (L d.1) (d.2, d.2)).1
   have := h.len d.1
   simp; omega
  ·rw [upd_other L _ e]
   have := h.len r
   omega
end Go.Proofs.YtcbcabhjododoaaGreat
namespace Go.Proofs.YtcbcabhjododoaaGreat
open Go.ChangeShapes Go.WideShapes Go.ChangeAt Go.RowKit Go.Maps Go.Sort Go.Lib Go.Shelf
theorem sorted_dots {ts : List Dt} (hs : SortedIn (ltOf cmpDt) 0 ts.length ts.toArray) : ts.Pairwise (fun x y => 0 ≤ cmpDt y x) := by
 rw [List.pairwise_iff_getElem]
 intro i j hi hj hij
 have h1 := hs i j (by omega) hij hj
 have e1 : ts.toArray[i]! = ts[i] := by rw [getElem!_pos _ _ (by simpa using hi)]; simp
 have e2 : ts.toArray[j]! = ts[j] := by rw [getElem!_pos _ _ (by simpa using hj)]; simp
 rw [e1, e2] at h1
 simpa [ltOf] using h1
theorem cmpDt_le {x y : Dt} (h : 0 ≤ cmpDt y x) (e : x.1 = y.1) : x.2 ≤ y.2 := by
 unfold cmpDt orI cmpI at h
 rw [e] at h
 simp only [Int.lt_irrefl, if_false, if_true] at h
 by_cases h1 : y.2 < x.2
 ·rw [if_pos h1] at h; exact absurd h (by decide)
 ·omega
def Gvn (S : List Dt → Prop) (ts : List Dt) : Prop := ∃ ss, S ss ∧ ts.Perm ss
def SeqGivesB {α : Type} (F : Fence) (n : Nat) (P : Program) (g : Nat) (lb : Array Value) (enc : α → Value) (S : List α → Prop) (N : Nat) (w : World) : Prop :=
 ∀ (l : Nat) (J : List α → World → Prop) (W : World), RowKit.Below w.heap.size w W → AbidesFrom W.heap.size J → (∀ pre W1, J pre W1 → RowKit.Below w.heap.size w W1) →
  (∀ pre x W1, J pre W1 → pre.length < N → YieldAt F (n - 1) P l #[enc x] W1 fun e W' => e = .returned (.bool true) ∧ J (pre ++ [x]) W' ∧ KeepsWalks W1 W') →
  J [] W →
  CallsIn F n P g (#[.func (.yield l) #[] #[]] ++ lb) W fun e W' => (∃ v, e = .returned v) ∧ ∃ xs, S xs ∧ J xs W'
namespace Ds
theorem appendSeqB (n : Nat) (hn : 2 ≤ n) (g : Nat) (lb : Array Value) (eg : ∀ args w, (callFunc g args).run Tryz.prog w = .ok (.enter g args) w)
  (S : List Dt → Prop) (N : Nat) (hN : N ≤ maxLen) (hNb : N * 16 ≤ 140737488355328) (w : World) (hseq : SeqGivesB Fence.wide (n - 1) Tryz.prog g lb dtV S N w) :
  CallsIn Fence.wide n Tryz.prog 107 #[.slice none 0 0, .func (.func g) #[] lb] w fun e w' => ∃ (v : Value) (ss : List Dt), e = .returned v ∧ S ss ∧ w'.ownsRow w.heap.size 55 2 v ss.length (kRow ss) ∧ (v = .slice none 0 0 ↔ ss = []) ∧ RowKit.Below w.heap.size w w' := by
 have hne : 102 ≠ 55 := by decide
 refine callsIn_of_wp_marks Tryz.func107 rfl trivial ?_ rfl
 simp only [Tryz.ntmps107, List.size_toArray, List.length_cons, List.length_nil, Nat.reduceAdd, Nat.reduceSub, Array.replicate_succ, Array.replicate_zero, List.push_toArray, List.append_toArray, List.nil_append, List.cons_append]
 gi_wp2
 refine wpIn_rangeFunc ?_
 intro fn hfn
 obtain ⟨W0, hW0⟩ : ∃ W0, w.alloc (.cells #[.slice none 0 0] 102) = W0 := ⟨_, rfl⟩
 have hs0 : W0.heap.size = w.heap.size + 1 := by rw [← hW0]; simp
 have hv0 : W0.heap[w.heap.size]? = some (.cells #[.slice none 0 0] 102 (0, 0)) := by rw [← hW0]; exact World.alloc_heap_new w _
 have hb0 : RowKit.Below w.heap.size w W0 := by rw [← hW0]; exact (RowKit.Below.refl _ w).alloc (Nat.le_refl _) _
 rw [hW0]
 obtain ⟨W1, hW1⟩ : ∃ W1, (W0.alloc (.deferred (some []))).alloc (.loop (apRec fn (.func (.func g) #[] lb) w.heap.size W0.heap.size .ready)) = W1 := ⟨_, rfl⟩
 have hold : ∀ k, k < W0.heap.size → W1.heap[k]? = W0.heap[k]? := fun k hk => by
  rw [← hW1]; exact (Below.heap_alloc _ _ k (by simp; omega)).trans (Below.heap_alloc _ _ k hk)
 have hb1 : RowKit.Below w.heap.size w W1 := by rw [← hW1]; exact (hb0.alloc hb0.size _).alloc (by have := hb0.size; simp; omega) _
 have hM : ApAt w fn (.func (.func g) #[] lb) w.heap.size (W0.heap.size + 1) W0.heap.size [] W1 :=
  ⟨⟨_, (hold w.heap.size (by omega)).trans hv0, ⟨rfl, .inl ⟨rfl, rfl⟩⟩, by simp⟩,
   by rw [← hW1]; have := World.alloc_heap_new (W0.alloc (.deferred (some []))) (.loop (apRec fn (.func (.func g) #[] lb) w.heap.size W0.heap.size .ready)); rwa [World.size_alloc] at this,
   by rw [← hW1]; exact (Below.heap_alloc _ _ _ (by simp)).trans (World.alloc_heap_new W0 _), hb1⟩
 refine ⟨W0.heap.size + 1, [{ target := .collected W0.heap.size, args := #[] }], W1, { target := .fn (.func g) lb, args := #[.func (.yield (W0.heap.size + 1)) #[] #[]] }, W1, g,
  #[.func (.yield (W0.heap.size + 1)) #[] #[]] ++ lb, W1, ?_, ?_, ?_, ?_, fun _ => by omega, ?_⟩
 ·rw [← hW1]; exact run_enterLoop_outer _ _ _ _ _
 ·simp [resolve, go_sem]
 ·intro f' hf'; trivial
 ·simp [invoke, go_sem, eg]
 ·refine (hseq (W0.heap.size + 1) (ApAt w fn (.func (.func g) #[] lb) w.heap.size (W0.heap.size + 1) W0.heap.size) W1 hb1 (ap_abides _ _ _ _ _ _ _ hb1.size) (fun _ _ h => h.below)
   (fun pre x W hJ hl => apYieldK (n - 1 - 1) w fn _ w.heap.size (W0.heap.size + 1) W0.heap.size (by omega) (by omega) (by omega) (Nat.le_refl _) (by omega) N hN hNb pre x W hJ hl) hM).mono ?_
  rintro e W2 ⟨⟨v0, rfl⟩, ss, hS, h2⟩
  obtain ⟨v, hv, hrow, hnil⟩ := h2.box
  have hend := run_endLoop (P := Tryz.prog) h2.L (by simp [apRec])
  obtain ⟨W3, hW3⟩ : ∃ W3, W2.putObj (W0.heap.size + 1) (.loop { apRec fn (.func (.func g) #[] lb) w.heap.size W0.heap.size .ready with state := .exhausted }) = W3 := ⟨_, rfl⟩
  rw [hW3] at hend
  have hg3 : W2.grownBy W3 (some (W0.heap.size + 1)) := by rw [← hW3]; exact grownBy_putObj_a _ _ _
  have hv3 : W3.heap[w.heap.size]? = some (.cells #[v] 102 (0, 0)) := by rw [← hW3]; exact (World.putObj_heap_other (by omega)).trans hv
  have hK3 : W3.heap[W0.heap.size]? = some (.deferred (some [])) := by rw [← hW3]; exact (World.putObj_heap_other (by omega)).trans h2.K
  have hrow3 := hrow.kept hg3 (ownsRow_ne_a hrow h2.L (fun cur e => by cases e))
  have hb3 : RowKit.Below w.heap.size w W3 := h2.below.grown hg3 h2.below.size (fun k e => by cases e; omega)
  obtain ⟨hc3, hf3⟩ := cell_of_box_a hv3
  have HR := hid hrow3
  clear hW3 hrow hrow3
  refine ⟨none, W3, hend, ?_⟩
  gi_wp2
  rw [← hs0]
  refine ⟨by simp, .inl ⟨_, _, rfl, run_takeDeferred hK3, ?_⟩⟩
  exact ⟨_, results_tmp rfl _ _ _, v, ss, rfl, hS, HR.out.kept (grownBy_putObj_a _ _ _) (ownsRow_ne_a HR.out hK3 (fun cur e => by cases e)), hnil, hb3.grown (grownBy_putObj_a _ _ _) hb3.size (fun k e => by cases e; omega)⟩
theorem collectB (g : Nat) (lb : Array Value) (eg : ∀ args w, (callFunc g args).run Tryz.prog w = .ok (.enter g args) w)
  (S : List Dt → Prop) (N : Nat) (hN : N ≤ maxLen) (hNb : N * 16 ≤ 140737488355328) (w : World) (hseq : SeqGivesB Fence.wide 4 Tryz.prog g lb dtV S N w) :
  Calls Tryz.prog 91 #[.func (.func g) #[] lb] w fun e w' => ∃ (v : Value) (ss : List Dt), e = .returned v ∧ S ss ∧ w'.ownsRow w.heap.size 55 2 v ss.length (kRow ss) ∧ (v = .slice none 0 0 ↔ ss = []) ∧ RowKit.Below w.heap.size w w' := by
 have HA := hid ((callsIn_wide (n := 5)).1 (appendSeqB 5 (by omega) g lb eg S N hN hNb w hseq))
 go_enter Tryz.func91, Tryz.ntmps91
 go_wp2_with fail
 refine HA.out.mono ?_
 rintro e w' ⟨v, ss, rfl, hS, hrow, hnil, hb⟩
 have HX := hid (And.intro hS (And.intro hrow (And.intro hnil hb)))
 clear hS hrow hnil hb HA
 go_wp2_with fail
 go_ret
 exact ⟨v, ss, rfl, HX.out.1, HX.out.2.1, HX.out.2.2.1, HX.out.2.2.2⟩
end Ds
theorem sortedFuncG (g : Nat) (lb : Array Value) (eg : ∀ args w, (callFunc g args).run Tryz.prog w = .ok (.enter g args) w) (N : Nat) (S : List Dt → Prop) (w : World) (hN : N ≤ 1048576) (hSN : ∀ ss, S ss → ss.length ≤ N) (hseq : SeqGivesB Fence.wide 4 Tryz.prog g lb dtV S N w) :
  Calls Tryz.prog 80 #[.func (.func g) #[] lb, .func (.func 82) #[] #[]] w fun e w' => ∃ (v : Value) (ts : List Dt), e = .returned v ∧ Gvn S ts ∧ ts.Pairwise (fun x y => 0 ≤ cmpDt y x) ∧ ts.length ≤ 1048576 ∧ w'.ownsRow w.heap.size 55 2 v ts.length (Ds.kRow ts) ∧ RowKit.Below w.heap.size w w' := by
 have HC := hid (Ds.collectB g lb eg _ N (by unfold maxLen; omega) (by omega) w hseq)
 go_enter Tryz.func80, Tryz.ntmps80
 go_wp2_with fail
 refine HC.out.mono ?_
 rintro e w1 ⟨v, ss, rfl, hK, hrow, hnil, hb⟩
 have hlen := hSN ss hK
 rcases hrow.2 with ⟨rfl, hz⟩ | ⟨gb, cap, cur, rfl, hbase, hgb, r1, r2, r3, r4⟩
 ·have hss : ss = [] := List.eq_nil_of_length_eq_zero hz
  subst hss
  have HB := hid hb
  have HK := hid hK
  have HR := hid hrow
  have hcon := AnyF.slices_SortFunc_none Tryz.sortD none 0 (.func (.func 82) #[] #[]) w1
  change Calls Tryz.prog 99 _ _ _ at hcon
  have HS := hid hcon
  clear hb hK hrow HC hcon
  go_wp2_with fail
  refine HS.out.mono ?_
  rintro e w2 ⟨rfl, rfl⟩
  clear HS
  go_wp2_with fail
  go_ret
  exact ⟨_, [], rfl, ⟨[], HK.out, List.Perm.refl _⟩, List.Pairwise.nil, by simp, HR.out, HB.out⟩
 ·have HS := hid (Ds.sortFuncK w.heap.size gb cap ss w1 hrow (by omega))
  have HB := hid hb
  have HK := hid hK
  have HL : Hid (ss.length ≤ 1048576) := hid (by omega)
  have Hg := hid hbase
  clear hb hK hrow HC hnil
  go_wp2_with fail
  refine HS.out.mono ?_
  rintro e w2 ⟨rfl, ts, hp, hs, ho, hg⟩
  have HO := hid ho
  have HB2 := hid (HB.out.grown hg HB.out.size (fun k e => by injection e with e; have := Hg.out; omega))
  have HP := hid hp
  have HSo := hid hs
  clear ho hg hp hs HS
  go_wp2_with fail
  go_ret
  refine ⟨_, ts, rfl, ⟨ss, HK.out, HP.out⟩, sorted_dots HSo.out, by rw [HP.out.length_eq]; exact HL.out, ?_, HB2.out⟩
  rw [HP.out.length_eq]; exact HO.out
def gD (ds : List Dt) (i : Nat) : Dt := ds.getD i (0, 0)
def DSeg (w : World) (a : Option Addr) (ds : List Dt) : Prop :=
 ds.length = 0 ∨ ∃ g, a = some ⟨g, 0, none⟩ ∧ g < w.heap.size ∧ ∀ i, i < ds.length → w.cell? ⟨g, i * 2, none⟩ = some (.int .i64 (gD ds i).1) ∧ w.cell? ⟨g, i * 2 + 1, none⟩ = some (.int .i64 (gD ds i).2)
theorem DSeg.below {w w1 : World} {a : Option Addr} {ds : List Dt} (h : DSeg w a ds) (hb : RowKit.Below w.heap.size w w1) : DSeg w1 a ds := by
 rcases h with h | ⟨g, e, hg, hc⟩
 ·exact .inl h
 ·exact .inr ⟨g, e, Nat.lt_of_lt_of_le hg hb.size, fun i hi => ⟨(hb.cell (p := ⟨g, _, none⟩) hg).trans (hc i hi).1, (hb.cell (p := ⟨g, _, none⟩) hg).trans (hc i hi).2⟩⟩
theorem gD_get {ds : List Dt} {i : Nat} {d : Dt} (h : ds[i]? = some d) : gD ds i = d := by simp [gD, List.getD, h]
theorem gD_mem {ds : List Dt} {i : Nat} (h : i < ds.length) : gD ds i ∈ ds := by simp [gD, List.getD, h]
theorem gD_take {ds : List Dt} {k : Nat} (h : k < ds.length) : ds.take (k + 1) = ds.take k ++ [gD ds k] := by
 rw [List.take_add_one]; simp [gD, List.getD, h]
theorem own_dseg {w : World} {B : Nat} {v : Value} {ts : List Dt} (h : w.ownsRow B 55 2 v ts.length (Ds.kRow ts)) : ∃ a c, v = .slice a ts.length c ∧ DSeg w a ts ∧ ts.length ≤ c ∧ c ≤ 9223372036854775807 := by
 obtain ⟨a, c, e, h1, h2, h3⟩ := jdseg h
 refine ⟨a, c, e, ?_, h1, h2⟩
 by_cases h0 : ts.length = 0
 ·exact .inl h0
 ·obtain ⟨g, ea, _, hg, hc⟩ := h3 (by omega)
  exact .inr ⟨g, ea, hg, fun i hi => by
   obtain ⟨d, e1, e2, e3⟩ := hc i hi
   rw [gD_get e1]; exact ⟨e2, e3⟩⟩
theorem rows_ne {w : World} {B B' s s' n n' : Nat} {e e' : TypeId} {v v' : Value} {xs xs' : List Value} (h : w.ownsRow B e s v n xs) (h' : w.ownsRow B' e' s' v' n' xs') (hne : e ≠ e') : v.ownBlock = none ∨ v.ownBlock ≠ v'.ownBlock := by
 rcases h.2 with ⟨rfl, _⟩ | ⟨g, cap, cur, rfl, _, hb, _⟩
 ·exact .inl rfl
 ·refine .inr fun e1 => ?_
  rcases h'.2 with ⟨rfl, _⟩ | ⟨g', cap', cur', rfl, _, hb', _⟩
  ·cases e1
  ·have : g = g' := by simpa [Value.ownBlock] using e1
   rw [← this, hb] at hb'
   injection hb' with hb'
   injection hb' with _ hb'
   exact hne hb'
theorem valuesItD (n l Bs g cap : Nat) (ds : List Dt) (J : List Dt → World → Prop) (hn : 1 ≤ n) (W0 : World) (hlen : ds.length ≤ 1048576)
  (hY : ∀ pre x W, J pre W → pre.length < ds.length → YieldAt Fence.wide (n - 1) Tryz.prog l #[dtV x] W fun e W' => e = .returned (.bool true) ∧ J (pre ++ [x]) W' ∧ KeepsWalks W W')
  (hJB : ∀ pre W1, J pre W1 → RowKit.Below W0.heap.size W0 W1) (W : World) (hJ : AbidesFrom W.heap.size J) (hB0 : Bs < W0.heap.size) (hm : W0.cell? ⟨Bs, 0, none⟩ = some (.slice (some ⟨g, 0, none⟩) ds.length cap)) (hg : g < W0.heap.size)
  (hc : ∀ i, i < ds.length → W0.cell? ⟨g, i * 2, none⟩ = some (.int .i64 (gD ds i).1) ∧ W0.cell? ⟨g, i * 2 + 1, none⟩ = some (.int .i64 (gD ds i).2)) (h0 : J [] W) :
  CallsIn Fence.wide n Tryz.prog 100 #[.func (.yield l) #[] #[], .pointer (some ⟨Bs, 0, none⟩)] W fun e W' => (∃ v, e = .returned v) ∧ ∃ ss, ss = ds ∧ J ss W' := by
 have hm0 : W.cell? ⟨Bs, 0, none⟩ = some (.slice (some ⟨g, 0, none⟩) ds.length cap) := ((hJB [] W h0).cell (p := ⟨Bs, 0, none⟩) hB0).trans hm
 have HJ := hid hJ
 have HY := hid hY
 have HJB := hid hJB
 have HC := hid hc
 clear hJ hY hJB hc hm
 refine callsIn_of_wp Tryz.func100 rfl trivial ?_ rfl
 simp only [Tryz.ntmps100, List.size_toArray, List.length_cons, List.length_nil, Nat.reduceAdd, Nat.reduceSub, Array.replicate_succ, Array.replicate_zero, List.push_toArray, List.append_toArray, List.nil_append, List.cons_append]
 gi_wp2
 gi_loopw [7] (fun i wr => ∃ k : Nat, k ≤ ds.length ∧ i = .int .i64 k ∧ J (ds.take k) wr ∧ W.heap.size ≤ wr.heap.size)
  (fun i _ => ds.length - (intOf i).toNat)
 case atStart => exact ⟨0, Nat.zero_le _, rfl, h0, Nat.le_refl _⟩
 case round =>
  obtain ⟨k, hk, rfl, hJs, hzs⟩ := hrel
  by_cases hlt : k < ds.length
  ·obtain ⟨xr, xq, hd⟩ : ∃ r q, gD ds k = (r, q) := ⟨_, _, rfl⟩
   have hb := HJB.out _ _ hJs
   have q0 := (hb.cell (p := ⟨g, k * 2, none⟩) hg).trans (HC.out k hlt).1
   have q1 := (hb.cell (p := ⟨g, k * 2 + 1, none⟩) hg).trans (HC.out k hlt).2
   rw [hd] at q0 q1
   dsimp only at q0 q1
   obtain ⟨w3, hw3⟩ : ∃ w3, wr.alloc (.cells #[.int .i64 xr, .int .i64 xq] 55) = w3 := ⟨_, rfl⟩
   have hJ3 : J (ds.take k) w3 := by rw [← hw3]; exact HJ.out _ wr _ none hJs (World.grownBy_alloc wr _ none) (fun r e => by cases e)
   obtain ⟨fn, tmps, assign, body, hy, hR⟩ := HY.out (ds.take k) (xr, xq) w3 hJ3 (by rw [List.length_take]; omega)
   have K3 : Bx2 w3 wr.heap.size (.int .i64 xr) (.int .i64 xq) := by rw [← hw3]; exact Bx2.made _ _ _ _
   have c0 := K3.c0
   have c1 := K3.c1
   have HTK : Hid (ds.take (k + 1) = ds.take k ++ [(xr, xq)]) := hid (by rw [gD_take hlt, hd])
   have HZ3 : Hid (W.heap.size ≤ w3.heap.size) := hid (by rw [← hw3]; simp; omega)
   have i1 : (0 : Int) ≤ (k : Int) := Int.natCast_nonneg _
   have i2 : (k : Int) < (ds.length : Int) := by omega
   clear K3 hd hb hJ3
   dsimp only [dtV, dotV] at hy hR ⊢
   gi_wp2
   try rw [hw3]
   refine hR.mono ?_
   rintro e W3 ⟨rfl, hJ4, hk3⟩
   gi_wp2
   go_roundw
   case rel => exact ⟨k + 1, by omega, by go_num, by rw [HTK.out]; exact hJ4, by have := HZ3.out; have := hk3.size; omega⟩
   case measure => simp [intOf]; omega
  ·obtain rfl : k = ds.length := by omega
   gi_wp2
   go_end0
   exact ⟨⟨_, rfl⟩, ds, rfl, by rw [List.take_length] at hJs; exact hJs⟩
theorem valuesNoD (n l Bs cap : Nat) (a : Option Addr) (J : List Dt → World → Prop) (W : World) (hm : W.cell? ⟨Bs, 0, none⟩ = some (.slice a 0 cap)) (h0 : J [] W) :
  CallsIn Fence.wide n Tryz.prog 100 #[.func (.yield l) #[] #[], .pointer (some ⟨Bs, 0, none⟩)] W fun e W' => (∃ v, e = .returned v) ∧ ∃ ss : List Dt, ss = [] ∧ J ss W' := by
 refine callsIn_of_wp Tryz.func100 rfl trivial ?_ rfl
 simp only [Tryz.ntmps100, List.size_toArray, List.length_cons, List.length_nil, Nat.reduceAdd, Nat.reduceSub, Array.replicate_succ, Array.replicate_zero, List.push_toArray, List.append_toArray, List.nil_append, List.cons_append]
 gi_wp2
 gi_loopw [7] (fun i wr => i = .int .i64 0 ∧ J [] wr) (fun _ _ => 0)
 case atStart => exact ⟨rfl, h0⟩
 case round =>
  obtain ⟨rfl, hJs⟩ := hrel
  gi_wp2
  go_end0
  exact ⟨⟨_, rfl⟩, [], rfl, hJs⟩
theorem valuesGivesD (Bs cap : Nat) (a : Option Addr) (ds : List Dt) (w : World) (hlen : ds.length ≤ 1048576) (hB : Bs < w.heap.size) (hm : w.cell? ⟨Bs, 0, none⟩ = some (.slice a ds.length cap)) (hs : DSeg w a ds) :
  SeqGivesB Fence.wide 4 Tryz.prog 100 #[.pointer (some ⟨Bs, 0, none⟩)] dtV (fun ss => ss = ds) ds.length w := fun l J W hW hJ hJB hY h0 => by
 rcases hs with h | ⟨g, rfl, hg, hc⟩
 ·have e : ds = [] := List.eq_nil_of_length_eq_zero h
  subst e
  exact valuesNoD 4 l Bs cap a J W ((hW.cell (p := ⟨Bs, 0, none⟩) hB).trans hm) h0
 ·exact valuesItD 4 l Bs g cap ds J (by omega) w hlen hY hJB W hJ hB hm hg hc h0
theorem valuesFnD (a : Option Addr) (n c : Nat) (w : World) : Calls Tryz.prog 81 #[.slice a n c] w fun e w' => e = .returned (.func (.func 100) #[] #[.pointer (some ⟨w.heap.size, 0, none⟩)]) ∧ w' = w.alloc (.cells #[.slice a n c] 102) := by
 go_enter Tryz.func81, Tryz.ntmps81
 go_wp2_with fail
 go_ret
 exact ⟨rfl, rfl⟩
end Go.Proofs.YtcbcabhjododoaaGreat
