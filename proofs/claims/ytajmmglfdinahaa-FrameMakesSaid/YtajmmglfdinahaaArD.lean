/- The contracts of layer 10 (arena), further on: a fresh number, Give (layer 10). -/
import Derived.Test.YtajmmglfdinahaaArC
namespace Go.Proofs.Ytajmmglfdinahaa.ar
open Go.ChangeShapes Go.WideShapes Go.ChangeAt Go.RowKit
set_option linter.unusedVariables false
set_option linter.unusedSimpArgs false
theorem infoBool : (Try.prog.info? 4).map (fun i => (i.zero, i.size, i.bytes)) = some (some (.bool false), 1, 1) := by kernel_rfl
theorem wpList_appH {ops : Array Oper} {rest : List Oper} {o : Oper} {a : Act} {w : World} {Q : Exit → Act → World → Prop} (hgd : o.guard = none) (s x : Operand)
    (ho : o.op = .call { callee := .builtin .append, args := #[s, x], argTypes := #[63, 63] })
    (B : Nat) (v : Value) (xs : List Bool) (hs : a.eval s = v) (ad : Addr) (c : Nat) (hx : a.eval x = .slice (some ad) 1 c) (u : Bool) (hown : w.ownsRow B 4 1 v xs.length (xs.map Value.bool)) (hu : w.cell? ad = some (.bool u)) (hpl : ad.add 0 = ad) (hsm : xs.length ≤ 100000) (hB : B ≤ w.heap.size)
    (h : ∀ v' w', w'.ownsRow B 4 1 v' (xs ++ [u]).length ((xs ++ [u]).map Value.bool) → w.grownBy w' v.ownBlock → (v'.ownBlock = v.ownBlock ∨ v'.ownBlock = some w.heap.size) → wpList Try.prog ops Q rest (a.put o.dst v') w') : wpList Try.prog ops Q (o :: rest) a w :=
  wpList_plain hgd fun _ hK => by
    obtain ⟨i0, hi, hz0, hz1, hz2⟩ := info_parts infoBool
    obtain ⟨v', w', hr, h2, h3, _, h4⟩ := run_append_own_at (P := Try.prog) w B 63 o.type 4 i0 (.bool false) 1 1 Try.underlying63 hi hz0 hz1 hz2 rfl (by decide) v xs.length _ hown ad 1 c [.bool u] rfl (by
      intro j x hj
      match j, hj with
      | 0, hj => simp at hj; subst hj; rw [hpl]; exact hu) (by simp; rfl) (by unfold maxLen; omega) (by omega) hB
    unfold Oper.wp execOp
    simp only [ho, resolve, invoke, builtin, Sem.run_bind, Sem.run_pure, Result.andThen_ok, List.map_toArray, List.map_cons, List.map_nil, hs, hx, hr]
    exact hK _ _ (h v' w' (by simpa using h2) h3 h4)
section
variable {S : Nat → Prop} {B A : Nat} {m f p : Int} {hv bv : Value} {hs : List Bool} {bk : List Int}
set_option maxHeartbeats 1000000 in
set_option maxRecDepth 20000 in
theorem free_new (w : World) (h : AS S B A w m (hs.length : Int) p hv bv hv bv hs []) (hne : ¬ (hs.length : Int) = m) (hm : hs.length ≤ 100000) : Calls Try.prog 59 #[.pointer (some ⟨A, 0, none⟩)] w fun e w' => ∃ hv', e = .returned (.int .i64 ((hs.length : Int) + 1)) ∧ AS S B A w' m ((hs ++ [false]).length : Int) p hv' bv hv' bv (hs ++ [false]) [] ∧ Below B w w' ∧ Same S w w' := by
  obtain ⟨o, cap, rfl⟩ := row_form h.rb
  have hbs := h.base
  have hAl := h.lt
  obtain ⟨c0, c1, c2, c3, c4, cf⟩ := h.cells
  have f1 := cf 1
  have f2 := cf 2
  have h1' := h.set1 ((hs.length : Int) + 1)
  have hd := h1'.below (below_drewN _ 0)
  have s1 := h.sameA 1 (.int .i64 ((hs.length : Int) + 1))
  have H := Lib.hid h
  clear h cf hd
  simp only [List.length_nil] at c3
  have hq : ((hs.length : Int) == m) = false := by simpa using hne
  have HN := Lib.hid hne
  clear hne
  go_enter Try.func59, Try.ntmps59
  go_wp2_with fail
  go_quiet (fail)
  obtain ⟨W, hW⟩ : ∃ W, w.drewN nq = W := ⟨_, rfl⟩
  have hbW := below_drewN w nq
  have hsW : W.heap.size = w.heap.size := by rw [← hW]; rfl
  rw [hW] at hbW
  have hA := H.out.below hbW
  have sA := H.out.same hbW
  clear H h1' s1 c0 c1 c2 c3 c4 f1 f2
  rw [hW]
  clear hW
  obtain ⟨c0, c1, c2, c3, c4, cf⟩ := hA.cells
  have f1 := cf 1
  have f2 := cf 2
  have h1' := hA.set1 ((hs.length : Int) + 1)
  have s1 := sA.trans (hA.sameA 1 (.int .i64 ((hs.length : Int) + 1)))
  have b1 : Below B w (W.setCell ⟨A, 1, none⟩ (.int .i64 ((hs.length : Int) + 1))) := (hbW.mono (by omega)).setCell hbs _
  have z1 : (W.setCell ⟨A, 1, none⟩ (.int .i64 ((hs.length : Int) + 1))).heap.size = w.heap.size := by rw [size_set, hsW]
  clear hA sA cf hbW
  obtain ⟨W1, hW1⟩ : ∃ W1, W.setCell ⟨A, 1, none⟩ (.int .i64 ((hs.length : Int) + 1)) = W1 := ⟨_, rfl⟩
  rw [hW1] at h1' s1 b1 z1
  obtain ⟨d0, d1, d2, d3, d4, df⟩ := h1'.cells
  have g2 := df 2
  clear df
  have H1 := Lib.hid h1'
  have HS := Lib.hid s1
  have HB := Lib.hid b1
  have hn1 : Below W1.heap.size W1 (W1.alloc (.cells #[.bool false] 4)) := by go_grown
  have hA2 := h1'.below hn1
  have s2 := s1.trans (h1'.same hn1)
  have b2 : Below B w (W1.alloc (.cells #[.bool false] 4)) := b1.trans (hn1.mono (by omega))
  clear h1' s1 b1 hn1
  have H2 := Lib.hid hA2
  have S2 := Lib.hid s2
  have B2 := Lib.hid b2
  clear hA2 s2 b2
  have Z1 := Lib.hid z1
  have hsz : B ≤ W1.heap.size := by omega
  clear z1 hsW
  have hsz2 : B ≤ (W1.alloc (.cells #[.bool false] 4)).heap.size := by simp; omega
  go_wp2_with ((at_builtin; refine wpList_appH rfl _ _ rfl B hv hs rfl ⟨W1.heap.size, 0, none⟩ 1 rfl false H2.out.rh (by go_simp) rfl hm hsz2 ?_))
  intro hv' W2 hr2 hg2 ho2
  have hr3 : W2.ownsRow B 4 1 hv' (hs ++ [false]).length ((hs ++ [false]).map Value.bool) := by simpa using hr2
  obtain ⟨o', cap', rfl⟩ := row_form hr3
  obtain ⟨hA3, s3⟩ := H2.out.grownH (hs' := hs ++ [false]) hr3 hg2 (by simpa using ho2)
  have b3 : Below B w W2 := B2.out.grown hg2 hsz2 (fun k e => (H2.out.rh.lt k e).1)
  have s4 := Lib.hid ((S2.out.trans s3).trans (hA3.sameA 2 (.slice o' (hs ++ [false]).length cap')))
  obtain ⟨e0, e1, e2, e3, e4, ef⟩ := hA3.cells
  have g2' := ef 2
  have H4 := Lib.hid (hA3.set2 (.slice o' (hs ++ [false]).length cap'))
  have LE : Hid (((hs ++ [false]).length : Int) = (hs.length : Int) + 1) := Lib.hid (by simp)
  clear ef hr2 hg2 ho2 s3 d0 d1 d2 d3 d4 c0 c1 c2 c3 c4 f1 f2 g2 hA3 hW1 hr3 hm
  generalize hL : (hs ++ [false]).length = L at *
  have HL := Lib.hid hL
  clear hL
  go_wp2_with fail
  go_ret
  exact ⟨_, rfl, by rw [HL.out, LE.out]; exact H4.out, b3.setCell hbs _, s4.out⟩
set_option maxRecDepth 20000 in
theorem give_no (w : World) (n : Int) (h : AS S B A w m (hs.length : Int) p hv bv hv bv hs bk) (hl : hs.length ≤ 100000) (hn : heldB hs n = false) : Calls Try.prog 16 #[.pointer (some ⟨A, 0, none⟩), .int .i64 n] w fun e w' => e = .returned (.bool false) ∧ w = w' := by
  have C : Hid (∀ w', w' = w → Calls Try.prog 20 #[.pointer (some ⟨A, 0, none⟩), .int .i64 n] w' fun e w'' => e = .returned (.bool false) ∧ w' = w'') := Lib.hid (fun w' e => by subst e; have := held_of _ n h hl; rw [hn] at this; exact this)
  clear h hn
  go_enter Try.func16, Try.ntmps16
  go_wp2_with (go_at_call 20; refine (C.out _ rfl).mono ?_; rintro e w' ⟨rfl, rfl⟩)
  go_ret
  exact ⟨rfl, rfl⟩
theorem give_nil (w : World) (n : Int) : Calls Try.prog 16 #[.pointer none, .int .i64 n] w fun e w' => e = .returned (.bool false) ∧ w = w' := by
  go_enter Try.func16, Try.ntmps16
  go_wp2_with (go_at_call 20; refine (held_nil _ _).mono ?_; rintro e w' ⟨rfl, rfl⟩)
  go_ret
  exact ⟨rfl, rfl⟩
set_option maxRecDepth 20000 in
theorem give_yes (w : World) (j : Nat) (h : AS S B A w m (hs.length : Int) p hv bv hv bv hs bk) (hl : hs.length ≤ 100000) (hk : bk.length ≤ 100000) (hj : hs[j]? = some true) : Calls Try.prog 16 #[.pointer (some ⟨A, 0, none⟩), .int .i64 ((j : Int) + 1)] w fun e w' => ∃ hv' bv', e = .returned (.bool true) ∧ AS S B A w' m ((hs.set j false).length : Int) p hv' bv' hv' bv' (hs.set j false) (bk ++ [(j : Int) + 1]) ∧ Below B w w' ∧ Same S w w' := by
  have hjl : j < hs.length := (List.getElem?_eq_some_iff.1 hj).1
  have hn : heldB hs ((j : Int) + 1) = true := by
    unfold heldB
    rw [decide_eq_true ⟨by omega, by omega⟩, show ((j : Int) + 1 - 1).toNat = j by omega, List.getD_eq_getElem?_getD, hj]; rfl
  have C : Hid (∀ w', w' = w → Calls Try.prog 20 #[.pointer (some ⟨A, 0, none⟩), .int .i64 ((j : Int) + 1)] w' fun e w'' => e = .returned (.bool true) ∧ w' = w'') := Lib.hid (fun w' e => by subst e; have := held_of _ ((j : Int) + 1) h hl; rw [hn] at this; exact this)
  obtain ⟨g, cap, rfl, hcap, hg, hlt⟩ := row_some h.rh (by omega)
  have hbs := h.base
  obtain ⟨c0, c1, c2, c3, c4, cf⟩ := h.cells
  have cj := row_at h.rh (j := j) (u := .bool true) (by simp [hj])
  have fj := row_free h.rh j
  obtain ⟨hA1, s1⟩ := h.putH false hjl
  have b1 : Below B w (w.setCell ⟨g, j, none⟩ (.bool false)) := ((Below.refl _ _).mono (Nat.le_of_lt (Nat.lt_of_le_of_lt hg hlt))).setCell hg _
  have hgA : g ≠ A := fun e => h.h1 (by simp [Value.ownBlock, e])
  obtain ⟨W1, hW1⟩ : ∃ W1, w.setCell ⟨g, j, none⟩ (.bool false) = W1 := ⟨_, rfl⟩
  rw [hW1] at hA1 s1 b1
  have hsz : B ≤ W1.heap.size := by rw [← hW1, size_set]; omega
  have hsz2 : B ≤ (W1.alloc (.cells #[.int .i64 ((j : Int) + 1)] 3)).heap.size := by simp; omega
  have hn1 : Below W1.heap.size W1 (W1.alloc (.cells #[.int .i64 ((j : Int) + 1)] 3)) := by go_grown
  obtain ⟨d0, d1, d2, d3, d4, df⟩ := hA1.cells
  have g3 := df 3
  have H2 := Lib.hid (hA1.below hn1)
  have S2 := Lib.hid (s1.trans (hA1.same hn1))
  have B2 := Lib.hid (b1.trans (hn1.mono hsz))
  have e1 : (j : Int) + 1 - 1 = (j : Int) := by omega
  have e2 : (0 : Int) ≤ (j : Int) := by omega
  have e3 : (j : Int) < (hs.length : Int) := by omega
  have e4 : (j : Int).toNat = j := by omega
  have LE : Hid (((hs.set j false).length : Int) = (hs.length : Int)) := Lib.hid (by simp)
  have HJ := Lib.hid hj
  clear hA1 s1 b1 hn1 df h cf hn hj
  go_enter Try.func16, Try.ntmps16
  go_wp2_with (first | (go_at_call 20; refine (C.out _ rfl).mono ?_; rintro e w' ⟨rfl, rfl⟩) | (at_builtin; refine wpList_app1 rfl _ _ rfl B bv bk rfl ⟨W1.heap.size, 0, none⟩ 1 rfl ((j : Int) + 1) H2.out.rb (by go_simp) rfl hk hsz2 ?_))
  intro bv' W2 hr2 hg2 ho2
  have hr3 : W2.ownsRow B 3 1 bv' (bk ++ [(j : Int) + 1]).length ((bk ++ [(j : Int) + 1]).map (Value.int .i64)) := by simpa using hr2
  obtain ⟨o', cap', rfl⟩ := row_form hr3
  obtain ⟨hA3, s3⟩ := H2.out.grownB (bk' := bk ++ [(j : Int) + 1]) hr3 hg2 (by simpa using ho2)
  have b3 : Below B w W2 := B2.out.grown hg2 hsz2 (fun k e => (H2.out.rb.lt k e).1)
  have s4 := Lib.hid ((S2.out.trans s3).trans (hA3.sameA 3 (.slice o' (bk ++ [(j : Int) + 1]).length cap')))
  obtain ⟨e0, e1', e2', e3', e4', ef⟩ := hA3.cells
  have g3' := ef 3
  have H4 := Lib.hid (hA3.set3 (.slice o' (bk ++ [(j : Int) + 1]).length cap'))
  clear ef hr2 hg2 ho2 s3 d0 d1 d2 d3 d4 c0 c1 c2 c3 c4 g3 hA3 hW1 hr3 cj fj e1 e2 e3 e4
  generalize (bk ++ [(j : Int) + 1]).length = L at *
  go_wp2_with fail
  go_ret
  exact ⟨_, _, rfl, by rw [LE.out]; exact H4.out, b3.setCell hbs _, s4.out⟩
end
end Go.Proofs.Ytajmmglfdinahaa.ar
