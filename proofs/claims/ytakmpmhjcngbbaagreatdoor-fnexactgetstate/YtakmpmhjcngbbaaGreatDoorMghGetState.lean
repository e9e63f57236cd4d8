import Derived.Test.YtakmpmhjcngbbaaGreatDoorMgg40
set_option linter.unusedVariables false
set_option linter.unusedSimpArgs false
set_option maxRecDepth 100000
set_option maxHeartbeats 40000000
namespace Go.Proofs.YtakmpmhjcngbbaaGreatDoor.fnExactGetState
open Go.ChangeShapes Go.WideShapes Go.ChangeAt Go.RowKit
structure GL (w : World) (b lo hi : Nat) (a x : Option Addr) (c d : Nat) (S : Sx) : Prop where
  bx : Bx2 w b (.slice a S.l.length c) (.slice x S.n d)
  s : SOw w lo hi a x d S
  hb : hi ≤ b
section
variable {w w' : World} {b lo hi : Nat} {a x : Option Addr} {c d : Nat} {S : Sx}
theorem GL.below (h : GL w b lo hi a x c d S) (hb : Below w.heap.size w w') : GL w' b lo hi a x c d S := ⟨h.bx.below hb h.bx.lt, h.s.below hb, h.hb⟩
theorem GL.keep (h : GL w b lo hi a x c d S) (hs : w.heap.size ≤ w'.heap.size) (h1 : w'.heap[b]? = w.heap[b]?) (h2 : ∀ q, lo ≤ q → q < hi → w'.heap[q]? = w.heap[q]?) : GL w' b lo hi a x c d S :=
  ⟨⟨(World.cell?_of_block (a := ⟨b, 0, none⟩) h1).trans h.bx.c0, (World.cell?_of_block (a := ⟨b, 1, none⟩) h1).trans h.bx.c1, fun i => (World.frozen?_of_block (a := ⟨b, i, none⟩) h1).trans (h.bx.f i), Nat.lt_of_lt_of_le h.bx.lt hs⟩, h.s.same hs h2, h.hb⟩
theorem GL.made (h : SOw w lo hi a x d S) (hh : hi ≤ w.heap.size) (c : Nat) : GL (w.alloc (.cells #[.slice a S.l.length c, .slice x S.n d] 28)) w.heap.size lo hi a x c d S :=
  ⟨Bx2.made w _ _ _, h.below ((Below.refl _ _).alloc (Nat.le_refl _) _), hh⟩
theorem eqGL {b' lo' hi' : Nat} {a' x' : Option Addr} {c' d' : Nat} (hm : S.Sm) (h : GL w b lo hi a x c d S) (h' : GL w b' lo' hi' a' x' c' d' S) :
    Calls Tryz.prog 7 #[.agg #[.slice a S.l.length c, .slice x S.n d], .agg #[.slice a' S.l.length c', .slice x' S.n d']] w fun e w' => e = .returned (.bool true) ∧ Below w.heap.size w w' :=
  eqStateC a a' c c' S.l x x' S.n d d' S.R S.F S.T w hm.l1 hm.p1 hm.n1 h.s.lf h'.s.lf h.s.rn h'.s.rn
end
theorem walk (w : World) (a : Option Addr) (n c : Nat) (f : Nat → Int) (aT aS aL aE : Addr) (hn : n ≤ 9223372036854775807) (h : Seg w a n f) (hf : Byt f) (hE : Errs w w.heap.size aT aS aL aE) :
    Calls Tryz.prog 3 #[.slice a n c] w fun e w' => e = .returned (.bool true) ∧ Below w.heap.size w w' := by
  by_cases hl : n ≤ 1048576
  · have HSP : Hid (∀ (g : Nat) (w' : World), Seg w' (some ⟨g, 0, none⟩) n f → g < w'.heap.size → Calls Tryz.prog 4 #[.slice (some ⟨g, 0, none⟩) n n] w' fun e w2 => Below w'.heap.size w' w2 ∧ ∃ va vc xa xc, e = .returned (.tuple #[.agg #[.slice va (gsX f n).l.length vc, .slice xa (gsX f n).n xc], .int .i64 (gsK f n)]) ∧ SOw w2 w'.heap.size w2.heap.size va xa xc (gsX f n)) :=
      hid fun g w' hs hg => specAns (some ⟨g, 0, none⟩) n n f w' hl (Nat.le_refl _) hf hs (fun y hy => by injection hy with hy; subst hy; exact hg)
    have HIM : Hid (∀ (g : Nat) (w' : World), Seg w' (some ⟨g, 0, none⟩) n f → g < w'.heap.size → Below w.heap.size w w' → Calls Tryz.prog 6 #[.slice (some ⟨g, 0, none⟩) n n] w' fun e w2 => Below w'.heap.size w' w2 ∧ ∃ va vc xa xc, e = .returned (.tuple #[.agg #[.slice va (gsX f n).l.length vc, .slice xa (gsX f n).n xc], .int .i64 (gsK f n)]) ∧ SOw w2 w'.heap.size w2.heap.size va xa xc (gsX f n)) :=
      hid fun g w' hs hg hb => implAns w.heap.size (some ⟨g, 0, none⟩) n n f aT aS aL aE w' hl (Nat.le_refl _) (by omega) hf hs (hE.below hb) hb.size (fun y hy => by injection hy with hy; subst hy; exact hg)
    have HSm := hid (gsX_sm hf n)
    obtain ⟨S, hS⟩ : ∃ S, gsX f n = S := ⟨_, rfl⟩
    obtain ⟨C, hC⟩ : ∃ C, gsK f n = C := ⟨_, rfl⟩
    rw [hS, hC] at HSP HIM
    rw [hS] at HSm
    have HTB : Hid (∀ w' : World, Below w.heap.size w w' → Calls Tryz.prog 5 #[.slice a n c] w' fun e w2 => e = .returned (.slice (some ⟨w'.heap.size, 0, none⟩) n n) ∧ Seg w2 (some ⟨w'.heap.size, 0, none⟩) n f ∧ Below w'.heap.size w' w2 ∧ w'.heap.size < w2.heap.size ∧ ∃ xs, w2.ownsRow w'.heap.size 5 1 (.slice (some ⟨w'.heap.size, 0, none⟩) n n) n xs) := hid fun w' hb => toByteO a n c f w' hl hf (h.below hb)
    have HF := hid hf
    clear h hE hf hS hC
    go_enter Tryz.func3, Tryz.ntmps3
    go_wp2_with fail
    refine (HTB.out w (Below.refl _ _)).mono ?_
    rintro e w1 ⟨rfl, s1, b1, z1, _⟩
    have HS1 := hid s1
    have HB1 := hid b1
    clear s1 b1
    go_wp2_with fail
    refine (HSP.out _ w1 HS1.out z1).mono ?_
    rintro e w2 ⟨b2, va2, vc2, xa2, xc2, rfl, so2⟩
    obtain ⟨W3, hW3⟩ : ∃ W3, w2.alloc (.cells #[.slice va2 S.l.length vc2, .slice xa2 S.n xc2] 28) = W3 := ⟨_, rfl⟩
    have b3 : Below w2.heap.size w2 W3 := by rw [← hW3]; exact (Below.refl _ _).alloc (Nat.le_refl _) _
    have zz2 := b2.size
    have zz3 : w2.heap.size < W3.heap.size := by rw [← hW3]; simp
    have HW3 : Hid (GL W3 w2.heap.size w1.heap.size w2.heap.size va2 xa2 vc2 xc2 S) := hid (by rw [← hW3]; exact GL.made so2 (Nat.le_refl _) vc2)
    have HB3 := hid (keepS HB1.out (keepS b2 b3))
    clear b2 so2 HS1 HB1 b3
    go_wp2_with fail
    try rw [hW3]
    clear hW3
    refine (HTB.out W3 HB3.out).mono ?_
    rintro e w4 ⟨rfl, s4, b4, z4, xs4, o4⟩
    have HS4 := hid s4
    have HO4 := hid o4
    have HW4 := hid (HW3.out.below b4)
    have HB4 := hid (keepS HB3.out b4)
    clear s4 o4 b4 HW3 HB3
    go_wp2_with fail
    refine (HIM.out _ w4 HS4.out z4 HB4.out).mono ?_
    rintro e w5 ⟨b5, va5, vc5, xa5, xc5, rfl, so5⟩
    obtain ⟨W6, hW6⟩ : ∃ W6, w5.alloc (.cells #[.slice va5 S.l.length vc5, .slice xa5 S.n xc5] 28) = W6 := ⟨_, rfl⟩
    have b6' : Below w5.heap.size w5 W6 := by rw [← hW6]; exact (Below.refl _ _).alloc (Nat.le_refl _) _
    have zz5 := b5.size
    have b6 := keepS b5 b6'
    have zz6 : w5.heap.size < W6.heap.size := by rw [← hW6]; simp
    have HG6 : Hid (GL W6 w5.heap.size w4.heap.size w5.heap.size va5 xa5 vc5 xc5 S) := hid (by rw [← hW6]; exact GL.made so5 (Nat.le_refl _) vc5)
    have HW6 := hid (HW4.out.below b6)
    have HS6 := hid (HS4.out.below b6)
    have HO6 := hid (owns_below HO4.out b6 (fun k hk => by simp [Value.ownBlock] at hk; omega))
    have HB6 := hid (keepS HB4.out b6)
    clear b5 b6 b6' so5 HW4 HS4 HO4 HB4
    have xw0 := HW6.out.bx.c0
    have xw1 := HW6.out.bx.c1
    have xg0 := HG6.out.bx.c0
    have xg1 := HG6.out.bx.c1
    go_wp2_with fail
    try rw [hW6]
    clear hW6 xw0 xw1 xg0 xg1
    refine (eqGL HSm.out HG6.out HW6.out).mono ?_
    rintro e w7 ⟨rfl, b7⟩
    have HG7 := hid (HG6.out.below b7)
    have HW7 := hid (HW6.out.below b7)
    have HB7 := hid (keepS HB6.out b7)
    have zz7 := b7.size
    have HS7 := hid (HS6.out.below b7)
    have HO7 := hid (owns_below HO6.out b7 (fun k hk => by simp [Value.ownBlock] at hk; omega))
    clear HG6 HW6 HB6 b7 HS6 HO6
    go_wp2_with fail
    refine (HTB.out w7 HB7.out).mono ?_
    rintro e w8 ⟨rfl, s8, b8, z8, _⟩
    have HT8 := hid s8
    have HG8 := hid (HG7.out.below b8)
    have HW8 := hid (HW7.out.below b8)
    have HB8 := hid (keepS HB7.out b8)
    have HS8 := hid (HS7.out.below b8)
    have HO8 := hid (owns_below HO7.out b8 (fun k hk => by simp [Value.ownBlock] at hk; omega))
    clear s8 HG7 HW7 HB7 b8 HS7 HO7
    go_wp2_with fail
    refine (eqByteS _ _ n n n f _ (by omega) HF.out HS8.out HT8.out).mono ?_
    rintro e w9 ⟨rfl, b9⟩
    have HG9 := hid (HG8.out.below b9)
    have HW9 := hid (HW8.out.below b9)
    have HB9 := hid (keepS HB8.out b9)
    have zz9 := b9.size
    have HO9 := hid (owns_below HO8.out b9 (fun k hk => by simp [Value.ownBlock] at hk; omega))
    clear HT8 HG8 HW8 HB8 b9 HS8 HO8
    go_wp2_with fail
    refine (markB W3.heap.size W3.heap.size n n 1 xs4 w9 (by omega) (by omega) HO9.out).mono ?_
    rintro e wA ⟨rfl, bA, zA, _, oA⟩
    have HGA := hid (HG9.out.keep (Nat.le_of_eq zA.symm) (oA _ (by omega)) (fun q h1 h2 => oA q (by omega)))
    have HWA := hid (HW9.out.keep (Nat.le_of_eq zA.symm) (oA _ (by omega)) (fun q h1 h2 => oA q (by omega)))
    have HBA := hid (HB9.out.trans (bA.mono (by omega)))
    have yw0 := HWA.out.bx.c0
    have yw1 := HWA.out.bx.c1
    have yg0 := HGA.out.bx.c0
    have yg1 := HGA.out.bx.c1
    clear bA oA HG9 HW9 HO9 HB9
    go_wp2_with fail
    clear yw0 yw1 yg0 yg1
    refine (eqGL HSm.out HGA.out HWA.out).mono ?_
    rintro e wB ⟨rfl, bB⟩
    have HGB := hid (HGA.out.below bB)
    have HWB := hid (HWA.out.below bB)
    have HBB := hid (keepS HBA.out bB)
    have zzB := bB.size
    have zg0 := HGB.out.bx.c0
    have zg1 := HGB.out.bx.c1
    clear HGA HWA HBA bB
    go_wp2_with fail
    clear zg0 zg1
    refine (markStateO HGB.out.s HSm.out 1 (by omega)).mono ?_
    rintro e wC ⟨rfl, tC, mC⟩
    have HWC := hid (HWB.out.keep tC.size (tC.block _ HWB.out.bx.lt (.inl (by omega))) (fun q h1 h2 => tC.block q (Nat.lt_of_lt_of_le h2 HWB.out.s.hl.2) (.inl (by omega))))
    have xC : Bx2 wC w5.heap.size (.slice va5 S.l.length vc5) (.slice xa5 S.n xc5) := by
      have e := tC.block w5.heap.size HGB.out.bx.lt (.inr (Nat.le_refl _))
      exact ⟨(World.cell?_of_block (a := ⟨w5.heap.size, 0, none⟩) e).trans HGB.out.bx.c0, (World.cell?_of_block (a := ⟨w5.heap.size, 1, none⟩) e).trans HGB.out.bx.c1, fun i => (World.frozen?_of_block (a := ⟨w5.heap.size, i, none⟩) e).trans (HGB.out.bx.f i), Nat.lt_of_lt_of_le HGB.out.bx.lt tC.size⟩
    have hw1 := HBB.out.size
    have HBC : Hid (Below w.heap.size w wC) := hid (HBB.out.trans ((tC.low (show w4.heap.size ≤ wB.heap.size by have := HGB.out.s.hl; omega)).mono (by omega)))
    have HMC := hid mC.at
    have vg0 := xC.c0
    have vg1 := xC.c1
    have hmE := mE_le HSm.out 1
    obtain ⟨M, hM⟩ : ∃ M, mE S 1 = M := ⟨_, rfl⟩
    have HM := hid hM
    rw [hM] at hmE ⊢
    clear tC mC HGB HWB HBB xC hM
    go_wp2_with fail
    clear vg0 vg1
    refine (heldStateO HSm.out 1 (by omega) HMC.out).mono ?_
    rintro e wD ⟨rfl, bD⟩
    rw [HM.out]
    have HWD := hid (HWC.out.below bD)
    have HBD := hid (keepS HBC.out bD)
    have zzD := bD.size
    clear bD HWC HBC HMC
    go_wp2_with fail
    refine (HTB.out wD HBD.out).mono ?_
    rintro e wE ⟨rfl, sE, bE, zE, _⟩
    have HSE := hid sE
    have HWE := hid (HWD.out.below bE)
    have HBE := hid (keepS HBD.out bE)
    clear sE bE HWD HBD
    go_wp2_with fail
    refine (HIM.out _ wE HSE.out zE HBE.out).mono ?_
    rintro e wF ⟨bF, vaF, vcF, xaF, xcF, rfl, soF⟩
    obtain ⟨WG, hWG⟩ : ∃ WG, wF.alloc (.cells #[.slice vaF S.l.length vcF, .slice xaF S.n xcF] 28) = WG := ⟨_, rfl⟩
    have bG' : Below wF.heap.size wF WG := by rw [← hWG]; exact (Below.refl _ _).alloc (Nat.le_refl _) _
    have bG := keepS bF bG'
    have HHG : Hid (GL WG wF.heap.size wE.heap.size wF.heap.size vaF xaF vcF xcF S) := hid (by rw [← hWG]; exact GL.made soF (Nat.le_refl _) vcF)
    have HWG := hid (HWE.out.below bG)
    have HBG := hid (keepS HBE.out bG)
    have uw0 := HWG.out.bx.c0
    have uw1 := HWG.out.bx.c1
    have uh0 := HHG.out.bx.c0
    have uh1 := HHG.out.bx.c1
    clear bF bG bG' soF HWE HBE HSE
    go_wp2_with fail
    try rw [hWG]
    clear hWG uw0 uw1 uh0 uh1
    refine (eqGL HSm.out HHG.out HWG.out).mono ?_
    rintro e wH ⟨rfl, bH⟩
    have HBH := hid (keepS HBG.out bH)
    clear bH
    go_wp2_with fail
    go_ret
    exact ⟨rfl, HBH.out⟩
  · go_enter Tryz.func3, Tryz.ntmps3
    go_wp2_with fail
    go_ret
    exact ⟨rfl, Below.refl _ _⟩
theorem trod_iface {H : Type} {enc : TypeId × Value → H} {P : Program} {t : TypeId} {ms : Array (String × TypeId)} (ht : P.underlying t = some (.interface ms)) {W : World} {sp : Nat → Bool} {fuel : Nat} {cs : List Value} {y : DataW H × List MemPlace}
    (h : DataW.trod enc P W 0 sp true fuel t cs = some y) (W' : World) (sp' : Nat → Bool) : DataW.trod enc P W' 0 sp' true fuel t cs = some y := by
  cases fuel with
  | zero => simp [DataW.trod] at h
  | succ n =>
    unfold DataW.trod at h ⊢
    rw [ht] at h ⊢
    match cs, h with
    | [], h => simp at h
    | [v], h => cases v <;> simp at h ⊢ <;> exact h
    | _ :: _ :: _, h => simp at h
theorem vars_below {H : Type} {enc : TypeId × Value → H} {P : Program} {t : TypeId} {ms : Array (String × TypeId)} (ht : P.underlying t = some (.interface ms)) {W W' : World} {sp : Nat → Bool} (hb : Below W.heap.size W W') (sp' : Nat → Bool) :
    ∀ (ns : List String) (gs : List (DataW H)) (q : List MemPlace), (∀ n ∈ ns, (P.globalNamed n).bind (fun g => (P.globals[g]?).map (·.type)) = some t) → DataW.TrodVars enc P W sp ns gs q → DataW.TrodVars enc P W' sp' ns gs q
  | [], [], q, _, h => h
  | [], _ :: _, _, _, h => h.elim
  | _ :: _, [], _, _, h => h.elim
  | n :: ns, d :: ds, q, hn, h => by
    obtain ⟨g, u, cs, fuel, p, q', h1, h2, h3, h4, h5, h6⟩ := h
    have e : u = t := by
      have := hn n (List.mem_cons_self)
      rw [h1, Option.bind_some, h2] at this
      exact Option.some.inj this
    subst e
    exact ⟨g, u, cs, fuel, p, q', h1, h2, var?_below h3 hb, trod_iface ht h4 W' sp', vars_below ht hb sp' ns ds q' (fun m hm => hn m (List.mem_cons_of_mem _ hm)) h5, h6⟩
theorem vars_len {H : Type} {enc : TypeId × Value → H} {P : Program} {W : World} {sp : Nat → Bool} : ∀ {ns : List String} {gs : List (DataW H)} {q : List MemPlace}, DataW.TrodVars enc P W sp ns gs q → gs.length = ns.length
  | [], [], _, _ => rfl
  | [], _ :: _, _, h => h.elim
  | _ :: _, [], _, h => h.elim
  | _ :: _, _ :: _, _, h => by
    obtain ⟨_, _, _, _, _, _, _, _, _, _, h5, _⟩ := h
    simp [vars_len h5]
theorem vars_type : ∀ n ∈ Rows.fnExactGetStateSpec.vars, (Tryz.prog.globalNamed n).bind (fun g => (Tryz.prog.globals[g]?).map (·.type)) = some 53 := by
  have h : (Rows.fnExactGetStateSpec.vars.all fun n => decide ((Tryz.prog.globalNamed n).bind (fun g => (Tryz.prog.globals[g]?).map (·.type)) = some 53)) = true := by kernel_rfl
  intro n hn
  exact of_decide_eq_true (List.all_eq_true.1 h n hn)
theorem vars_all {H : Type} {enc : TypeId × Value → H} {W : World} {sp : Nat → Bool} {gs : List (DataW H)} {q : List MemPlace} (h : DataW.TrodVars enc Tryz.prog W sp Rows.fnExactGetStateSpec.vars gs q) : ∃ g1 g2 g3 g4 g5 g6 g7 g8 g9 g10 g11 g12 g13 g14 g15, gs = [g1, g2, g3, g4, g5, g6, g7, g8, g9, g10, g11, g12, g13, g14, g15] := by
  have hl : gs.length = 15 := (vars_len h).trans rfl
  match gs, hl with
  | [g1, g2, g3, g4, g5, g6, g7, g8, g9, g10, g11, g12, g13, g14, g15], _ => exact ⟨_, _, _, _, _, _, _, _, _, _, _, _, _, _, _, rfl⟩
noncomputable def low : Nat := (World.holding Tryz.prog default ⟨#[], #[], []⟩).heap.size
def setAt (h : Array Obj) (g : Nat) (vs : Array Value) : Array Obj := h.modify g fun
  | .cells _ t frozen => .cells vs t frozen
  | o => o
noncomputable def laidWorld (os : Os) : World :=
  let w0 := World.holding Tryz.prog os ⟨#[.cells #[.string { data := #[116, 104, 101, 32, 98, 121, 116, 101, 115, 32, 101, 110, 100, 32, 116, 111, 111, 32, 101, 97, 114, 108, 121] }] 251, .cells #[.string { data := #[116, 104, 101, 32, 116, 101, 110, 116, 104, 32, 98, 121, 116, 101, 32, 105, 115, 32, 97, 98, 111, 118, 101, 32, 49] }] 251, .cells #[.string { data := #[116, 104, 101, 32, 118, 97, 114, 105, 110, 116, 32, 99, 111, 117, 108, 100, 32, 98, 101, 32, 115, 104, 111, 114, 116, 101, 114] }] 251, .cells #[.string { data := #[116, 104, 101, 32, 108, 101, 110, 103, 116, 104, 32, 105, 115, 32, 97, 98, 111, 118, 101, 32, 116, 104, 101, 32, 108, 105, 109, 105, 116] }] 251, .cells #[.string { data := #[97, 32, 110, 117, 109, 98, 101, 114, 32, 105, 115, 32, 97, 98, 111, 118, 101, 32, 105, 116, 115, 32, 108, 105, 109, 105, 116] }] 251, .cells #[.string { data := #[111, 117, 116, 32, 111, 102, 32, 111, 114, 100, 101, 114] }] 251, .cells #[.string { data := #[97, 32, 114, 101, 112, 108, 105, 99, 97, 32, 104, 97, 115, 32, 110, 111, 32, 114, 117, 110, 115] }] 251, .cells #[.string { data := #[98, 121, 116, 101, 115, 32, 115, 116, 97, 110, 100, 32, 98, 101, 104, 105, 110, 100, 32, 116, 104, 101, 32, 101, 110, 100] }] 251, .cells #[.string { data := #[97, 32, 110, 97, 109, 101, 32, 104, 97, 115, 32, 110, 111, 32, 98, 121, 116, 101, 115] }] 251, .cells #[.string { data := #[116, 104, 101, 114, 101, 32, 105, 115, 32, 110, 111, 32, 115, 117, 99, 104, 32, 107, 105, 110, 100] }] 251, .cells #[.string { data := #[97, 32, 112, 97, 116, 104, 32, 104, 97, 115, 32, 116, 111, 111, 32, 109, 97, 110, 121, 32, 110, 97, 109, 101, 115] }] 251, .cells #[.string { data := #[97, 32, 109, 97, 112, 32, 119, 105, 116, 104, 105, 110, 32, 116, 104, 101, 32, 116, 114, 101, 101, 32, 104, 97, 115, 32, 110, 111, 32, 107, 101, 121, 115] }] 251, .cells #[.string { data := #[97, 32, 114, 101, 103, 105, 115, 116, 101, 114, 32, 111, 114, 32, 102, 108, 97, 103, 32, 104, 97, 115, 32, 110, 111, 32, 108, 101, 97, 118, 101, 115] }] 251, .cells #[.string { data := #[97, 32, 100, 111, 116, 32, 105, 115, 32, 110, 111, 116, 32, 105, 110, 32, 116, 104, 101, 32, 99, 111, 110, 116, 101, 120, 116] }] 251, .cells #[.string { data := #[97, 32, 100, 111, 116, 32, 99, 111, 109, 101, 115, 32, 116, 119, 105, 99, 101] }] 251], #[], []⟩
  { w0 with heap := (setAt (setAt (setAt (setAt (setAt (setAt (setAt (setAt (setAt (setAt (setAt (setAt (setAt (setAt (setAt w0.heap 10 #[.iface 233 (.pointer (some ⟨low + 0, 0, none⟩))]) 11 #[.iface 233 (.pointer (some ⟨low + 1, 0, none⟩))]) 12 #[.iface 233 (.pointer (some ⟨low + 2, 0, none⟩))]) 0 #[.iface 233 (.pointer (some ⟨low + 3, 0, none⟩))]) 4 #[.iface 233 (.pointer (some ⟨low + 4, 0, none⟩))]) 5 #[.iface 233 (.pointer (some ⟨low + 5, 0, none⟩))]) 9 #[.iface 233 (.pointer (some ⟨low + 6, 0, none⟩))]) 1 #[.iface 233 (.pointer (some ⟨low + 7, 0, none⟩))]) 7 #[.iface 233 (.pointer (some ⟨low + 8, 0, none⟩))]) 6 #[.iface 233 (.pointer (some ⟨low + 9, 0, none⟩))]) 3 #[.iface 233 (.pointer (some ⟨low + 10, 0, none⟩))]) 2 #[.iface 233 (.pointer (some ⟨low + 11, 0, none⟩))]) 8 #[.iface 233 (.pointer (some ⟨low + 12, 0, none⟩))]) 13 #[.iface 233 (.pointer (some ⟨low + 13, 0, none⟩))]) 14 #[.iface 233 (.pointer (some ⟨low + 14, 0, none⟩))]) }
theorem laid_met (os : Os) (args : Array Value) : laidMetH Tryz.prog Rows.fnExactGetStateRow.laid ((laidWorld os).forCall (fun _ _ => 0) ⟨#[], args, []⟩).memory :=
  laidMetH_of_parts (laidMet_of_run' 8 (by kernel_rfl) (by kernel_rfl)) (by kernel_rfl)
theorem contract (H : Type) (enc : TypeId × Value → H) (W : World) (base : Nat) (args : Array Value) (ds gs : List (DataW H)) (before : List MemPlace)
    (hval0 : ∀ (j : Nat) t v, Tryz.f3.params[j]? = some t → args[j]? = some v → Value.okWide Tryz.prog W .any base t v)
    (hW : DataW.Whole enc Tryz.prog Tryz.f3.params.toList Rows.fnExactGetStateSpec.vars false W args.toList ds gs before) (hL : laidMetH Tryz.prog Rows.fnExactGetStateRow.laid W) :
    Calls Tryz.prog 3 args W fun e W' => ∃ v, e = .returned v ∧ Rows.fnExactGetStateSpec.post enc Tryz.prog Tryz.f3 false true false false W args v W' := by
  have hval : ∀ (j : Nat) t v, Tryz.f3.params[j]? = some t → args[j]? = some v → Value.okWide Tryz.prog W .any base t v := hval0
  have hW' := hW
  obtain ⟨p, q, hA0, hV0, rfl, hfz, hnd⟩ := hW
  have hA : DataW.TrodAll enc Tryz.prog W 0 (fun _ => true) true Tryz.f3.params.toList args.toList ds p := hA0
  have vr : ∀ {X : World}, Below W.heap.size W X → ∀ sp : Nat → Bool, DataW.TrodVars enc Tryz.prog X sp Rows.fnExactGetStateSpec.vars gs q := fun hb sp => vars_below Tryz.underlying53 hb sp _ _ _ vars_type hV0
  obtain ⟨g1, g2, g3, g4, g5, g6, g7, g8, g9, g10, g11, g12, g13, g14, g15, rfl⟩ := vars_all hV0
  rw [Tryz.params3] at hA hval
  obtain ⟨v0, vs0, d0, ds0, p0, q0, hargs, rfl, rfl, h0, r0⟩ := trodAll_cons hA
  obtain ⟨rfl, rfl, rfl⟩ := trodAll_nil r0
  obtain rfl : args = #[v0] := by cases args; simp_all
  obtain ⟨aT, aS, aE, hE⟩ := errs_of_laidS hL
  have k0 := h0
  have lt0 : ∀ x ∈ p0, x.block < W.heap.size := by obtain ⟨m, hm⟩ := k0; exact DataW.trod_lt m _ _ _ hm
  obtain ⟨a, n, c, f, rfl, hn, s, hf⟩ := openBytes (hval 0 22 v0 rfl rfl) h0
  clear hA0 hV0 hval0
  refine (walk W a n c f aT aS aE aE hn s hf hE).mono fun e W' ⟨he, bel⟩ => ?_
  subst he
  exact ⟨_, rfl, _, _, _, [], _, _, hW', trodAll_mk1 (shut_bool Tryz.underlying4 _), (trodAll_cons_mk (Below.trod La.laidOut (by kernel_rfl) (of_decide_eq_true (by kernel_rfl)) k0 bel lt0) trodAll_mk0), vr bel _, bel.frame _, fun h => by cases h⟩
theorem lifted (os : Os) (started : os.Started) (H : Type) (enc : TypeId × Value → H) (F : Stop.Interp) :
    ReturnsInHanded {} Tryz.checked os 3 .any ((OpenSpec.ofChange Rows.fnExactGetStateSpec).preRow enc Tryz.prog Tryz.f3 Rows.fnExactGetStateRow.domain false Rows.fnExactGetStateRow.laid) (((OpenSpec.ofChange Rows.fnExactGetStateSpec).at F).post enc Tryz.prog Tryz.f3 false true false false) := by
  refine returnsInHanded_of_row (C := Tryz.checked) (s := OpenSpec.ofChange Rows.fnExactGetStateSpec) La.own started (by kernel_rfl) Tryz.func3
    (witness_row_at (enc := enc) (C := Tryz.checked) false (laidWorld os) #[.slice none 0 0] rfl (by kernel_rfl) (by kernel_rfl) (by kernel_rfl)
      (OpenSpec.preRow_of_B rfl 8 (by kernel_rfl) (by kernel_rfl) (laid_met os _))) ?_
  intro W base args ds gs before hval hW _ _ _ hL _ _
  exact contract H enc W base args ds gs before hval hW hL
theorem said : Rows.FnExactGetStateSaid :=
  OpenClaim.holds_of_cond 3 Tryz.f3 rfl rfl rfl rfl rfl rfl rfl ⟨rfl, rfl, rfl, rfl, rfl⟩ rfl rfl rfl rfl rfl (by kernel_rfl) Tryz.func3 (by kernel_rfl)
    (of_decide_eq_true (by kernel_rfl)) (by unfold Func.isWrapper; first | (rw [if_pos (by decide +kernel)]; kernel_rfl) | (rw [if_neg (by decide +kernel)]; exact ⟨rfl, rfl⟩))
    (fun os started H enc _ F => by rw [OpenClaim.pre_eq_preRow]; exact lifted os started H enc F)
theorem plain (f : FuncId) (fn : Func) (hf : Tryz.pinned.checked.prog.funcNamed "loop.example/s02772/laws.FnExactGetState" = some f) (hfn : Tryz.pinned.checked.prog.funcs[f]? = some fn) :
    false = Tryz.pinned.checked.prog.looks [] ∧ ∀ (j : Nat) t, fn.params[j]? = some t → Tryz.pinned.checked.prog.wantsStandIn t = false := by
  obtain rfl : f = 3 := Option.some.inj ((show Tryz.prog.funcNamed "loop.example/s02772/laws.FnExactGetState" = some 3 by kernel_rfl).symm.trans hf) |>.symm
  obtain rfl : fn = Tryz.f3 := (Option.some.inj (Tryz.func3.symm.trans hfn)).symm
  refine ⟨by kernel_rfl, fun j t ht => ?_⟩
  rw [Tryz.params3] at ht
  have hm := Array.mem_of_getElem? ht
  simp at hm
  subst hm
  exact (show Tryz.prog.wantsStandIn 22 = false by kernel_rfl)
end Go.Proofs.YtakmpmhjcngbbaaGreatDoor.fnExactGetState
namespace Go.Proofs.YtakmpmhjcngbbaaGreatDoor
theorem getStateCard : Rows.FnExactGetStateCardSaid :=
  Claim7.holds_tied_plain_at .later [] _ _ _ _ fnExactGetState.said (fun _ h => by cases h) (by kernel_rfl) (fun _ h => by cases h) fnExactGetState_row_tie rfl ⟨rfl, rfl⟩ (by kernel_rfl) rfl fnExactGetState.plain (by kernel_rfl)
#print axioms getStateCard
end Go.Proofs.YtakmpmhjcngbbaaGreatDoor
