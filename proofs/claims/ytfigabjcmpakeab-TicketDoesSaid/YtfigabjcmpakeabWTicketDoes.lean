/- Whatever is asked of locks: the law TicketDoes answers true. No condition. -/
import Derived.Test.YtfigabjcmpakeabTickS
import Derived.Test.YtfigabjcmpakeabGrids
import Derived.Deep.Cut
import Derived.Outline
import Derived.Deep.DrawnRows
import Derived.Deep.RegionHeld3
namespace Go.Proofs.Ytfigabjcmpakeab.ticketDoes
open Go.ChangeShapes Go.WideShapes Go.ChangeAt Go.RowKit
attribute [local go_sem ↓] Go.wp_at_zero Go.wp_at_succ
set_option linter.unusedVariables false
set_option linter.unusedSimpArgs false
set_option maxRecDepth 20000 in
theorem big (y : Option Addr) (len cap : Nat) (a0 : Int) (w : World) (h : 200 < len) :
    Calls Try.prog 3 #[.int .u8 a0, .slice y len cap] w fun e w' => e = .returned (.bool true) ∧ Below w.heap.size w w' := by
  go_enter Try.func3, Try.ntmps3
  go_wp2_with (first | (go_at_call 15; refine (works12 _).mono ?_; rintro e w1 ⟨rfl, hb1⟩))
  go_ret
  exact ⟨rfl, hb1⟩
theorem keep6 {w w' w'' : World} {q1 q2 q3 M i j k l n : Nat} {v0 v1 v2 v3 v4 : Value} (h : Below w.heap.size w w' ∧ w'.cell? ⟨q1, i, none⟩ = some v0 ∧ w'.cell? ⟨q1, j, none⟩ = some v1 ∧ w'.cell? ⟨q2, k, none⟩ = some v2 ∧ w'.cell? ⟨q3, l, none⟩ = some v3 ∧ w'.cell? ⟨M, n, none⟩ = some v4) (hb : Below w'.heap.size w' w'') :
    Below w.heap.size w w'' ∧ w''.cell? ⟨q1, i, none⟩ = some v0 ∧ w''.cell? ⟨q1, j, none⟩ = some v1 ∧ w''.cell? ⟨q2, k, none⟩ = some v2 ∧ w''.cell? ⟨q3, l, none⟩ = some v3 ∧ w''.cell? ⟨M, n, none⟩ = some v4 := by
  have c : ∀ {B j : Nat} {v : Value}, w'.cell? ⟨B, j, none⟩ = some v → w''.cell? ⟨B, j, none⟩ = some v := fun {B} {j} {v} hc => (hb.cell (p := ⟨B, j, none⟩) (World.block_lt_of_cell? w' _ hc)).trans hc
  exact ⟨btr h.1 hb, c h.2.1, c h.2.2.1, c h.2.2.2.1, c h.2.2.2.2.1, c h.2.2.2.2.2⟩
theorem keep4' {w w' w'' : World} {q1 q2 i j k : Nat} {v0 v1 v2 : Value} (h : Below w.heap.size w w' ∧ w'.cell? ⟨q1, i, none⟩ = some v0 ∧ w'.cell? ⟨q1, j, none⟩ = some v1 ∧ w'.cell? ⟨q2, k, none⟩ = some v2) (hb : Below w'.heap.size w' w'') :
    Below w.heap.size w w'' ∧ w''.cell? ⟨q1, i, none⟩ = some v0 ∧ w''.cell? ⟨q1, j, none⟩ = some v1 ∧ w''.cell? ⟨q2, k, none⟩ = some v2 := by
  have c : ∀ {B j : Nat} {v : Value}, w'.cell? ⟨B, j, none⟩ = some v → w''.cell? ⟨B, j, none⟩ = some v := fun {B} {j} {v} hc => (hb.cell (p := ⟨B, j, none⟩) (World.block_lt_of_cell? w' _ hc)).trans hc
  exact ⟨btr h.1 hb, c h.2.1, c h.2.2.1, c h.2.2.2⟩
theorem keepK {w w' w'' : World} {g q1 q2 i j k : Nat} {v0 v1 v2 : Value} (h1 : q1 ≠ g) (h2 : q2 ≠ g) (h : Keep g w w' ∧ w'.cell? ⟨q1, i, none⟩ = some v0 ∧ w'.cell? ⟨q1, j, none⟩ = some v1 ∧ w'.cell? ⟨q2, k, none⟩ = some v2) (hb : Keep g w' w'') :
    Keep g w w'' ∧ w''.cell? ⟨q1, i, none⟩ = some v0 ∧ w''.cell? ⟨q1, j, none⟩ = some v1 ∧ w''.cell? ⟨q2, k, none⟩ = some v2 :=
  ⟨h.1.trans hb, hb.cell h.2.1 h1, hb.cell h.2.2.1 h1, hb.cell h.2.2.2 h2⟩
theorem u64_lo (a : Int) : 0 ≤ IntKind.u64.wrap a := by rw [IntKind.wrap_u64]; omega
theorem mod_k (u : Int) (len : Nat) (h0 : 0 ≤ u) (hl : 0 < len) (hl2 : len ≤ 1000) : ∃ k : Nat, k < len ∧ IntKind.i64.wrap (u.tmod len) = k := by
  rw [Int.tmod_eq_emod_of_nonneg h0]
  have h1 := Int.emod_nonneg u (show (len : Int) ≠ 0 by omega)
  have h2 := Int.emod_lt_of_pos u (show (0 : Int) < len by omega)
  refine ⟨(u % len).toNat, by omega, ?_⟩
  rw [IntKind.wrap_i64]; omega
def OpFact (x : Option Addr) (len : Nat) (w : World) (Z : Nat → Nat → Int) : Prop := ∀ i, i < len → ∃ b off, x = some ⟨b, off, none⟩ ∧ b < w.heap.size ∧ w.cell? ⟨b, off + i * 3, none⟩ = some (.int .i64 (Z i 0)) ∧ w.cell? ⟨b, off + i * 3 + 1, none⟩ = some (.int .i64 (Z i 1)) ∧ w.cell? ⟨b, off + i * 3 + 2, none⟩ = some (.int .i64 (Z i 2))
set_option maxHeartbeats 8000000 in
set_option maxRecDepth 20000 in
theorem core (y : Option Addr) (len cap n : Nat) (Z : Nat → Nat → Int) (w : World) (hn : n ≤ 255) (h : len ≤ 200) (hy : Hid (OpFact y len w Z)) :
    Calls Try.prog 3 #[.int .u8 n, .slice y len cap] w fun e w' => e = .returned (.bool true) ∧ Below w.heap.size w w' := by
  have hmk := run_make_row' (P := Try.prog) 26 3 (.int .i64 0) 8 Try.underlying26 (by kernel_rfl) rfl .i64 .i64 n (by omega) (by omega)
  go_enter Try.func3, Try.ntmps3
  go_wp2_with (first | (go_at_call 15; refine (works12 _).mono ?_; rintro e w1 ⟨rfl, hb1⟩))
  refine (new_n n _ (by omega)).mono ?_
  rintro e w2 ⟨rfl, hs0, hb2⟩
  go_wp2_with fail
  have hk0 := K.new (w0 := w) ⟨hs0, hb1.trans (hb2.mono hb1.size), hb1.size⟩ (by have := hb1.size; omega)
  have hl0 : Hid ((List.replicate n (0 : Int)).length = n) := Lib.hid (by rw [List.length_replicate])
  have hlt0 : w1.heap.size + 1 < w2.heap.size ∧ w.heap.size ≤ w2.heap.size := by
    have := hs0.facts.2.2.2.2.1; have := hb1.size; omega
  have hkb : KB w (w2.alloc (Obj.cells (madeCells #[Value.int .i64 0] n) 3)) (w1.heap.size + 1) w1.heap.size w2.heap.size (w2.heap.size + 1) (List.replicate n 0) (List.replicate n 0) := ⟨hk0, by omega, by omega, by omega, by omega, by simp⟩
  clear hk0 hs0 hb2 hmk hb1 hlt0
  generalize w2.alloc (Obj.cells (madeCells #[Value.int .i64 0] n) 3) = wc at hkb ⊢
  generalize w1.heap.size + 1 = S at *
  generalize w1.heap.size = g at *
  generalize w2.heap.size + 1 = B at *
  generalize w2.heap.size = M at *
  generalize List.replicate n (0 : Int) = z0 at *
  go_loopw [7, 8, 9, 10] (fun ut ua un i wr => ∃ (j : Nat) (vt va vn : Value) (A N xs : List Int), vt = ut ∧ va = ua ∧ vn = un ∧ j ≤ len ∧ i = .int .i64 j ∧ A.length = N.length ∧ A.length ≤ j ∧ KB w wr S g M B xs xs ∧ Hid (xs.length = n) ∧ R3 wr B vt va vn A N A N ∧ Hid (∀ q, q < A.length → -1048576 ≤ A.getD q 0 ∧ A.getD q 0 ≤ 1048576)) (fun _ _ _ i _ => len - (intOf i).toNat)
  case atStart => exact ⟨0, _, _, _, [], [], z0, rfl, rfl, rfl, Nat.zero_le _, rfl, rfl, Nat.le_refl _, hkb, hl0, ⟨World.ownsRow_nil _ _ _ _, World.ownsRow_nil _ _ _ _, World.ownsRow_nil _ _ _ _, (by intro k hk; cases hk), (by intro k hk; cases hk), (by intro k hk; cases hk)⟩, Lib.hid (fun q hq => by simp at hq)⟩
  case round =>
    clear hkb hl0
    obtain ⟨j, vt, va, vn, A, N, xs, rfl, rfl, rfl, hj, rfl, hAN, hAj, hkb, hl, hr3, hbd⟩ := hrel
    by_cases hlt : j < len
    · obtain ⟨b, off, rfl, hb, hz0, hz1, hz2⟩ := hy.out j hlt
      have y0 : wr.cell? ⟨b, off + j * 3, none⟩ = some (.int .i64 (Z j 0)) := (hkb.k.1.2.1.cell (p := ⟨b, off + j * 3, none⟩) hb).trans hz0
      have y1 : wr.cell? ⟨b, off + j * 3 + 1, none⟩ = some (.int .i64 (Z j 1)) := (hkb.k.1.2.1.cell (p := ⟨b, off + j * 3 + 1, none⟩) hb).trans hz1
      have y2 : wr.cell? ⟨b, off + j * 3 + 2, none⟩ = some (.int .i64 (Z j 2)) := (hkb.k.1.2.1.cell (p := ⟨b, off + j * 3 + 2, none⟩) hb).trans hz2
      clear hz0 hz1 hz2
      generalize Z j 0 = kd at *
      generalize Z j 1 = at_ at *
      generalize Z j 2 = m at *
      obtain ⟨ot, ct, et, htc, hot⟩ := own_form hr3.t
      obtain ⟨nA, hnA⟩ : ∃ nA, nA = A.length := ⟨_, rfl⟩
      obtain ⟨M1, hM1⟩ : ∃ M1 : Nat, M1 = max nA 1 := ⟨_, rfl⟩
      have hmx : (if (nA : Int) < 1 then (1 : Int) else nA) = M1 := by split <;> omega
      obtain ⟨k, hk, hkk⟩ := mod_k (IntKind.u64.wrap m) M1 (u64_lo m) (by omega) (by omega)
      have hM1l : (M1 : Int) ≤ 1000 ∧ (1 : Int) ≤ (M1 : Int) := by omega
      obtain ⟨hM1a, hM1b⟩ := hM1l
      have hnAl : nA ≤ 200 := by omega
      rw [← hnA] at et hot htc
      subst et
      have R := Lib.hid hr3
      have KBH := Lib.hid hkb
      have HN := Lib.hid (And.intro hnA hAN)
      have HM1 := Lib.hid hM1
      have HOT := Lib.hid hot
      have HJ := Lib.hid hAj
      clear hr3 hkb hnA hAN hAj hM1 hot
      go_upto_region 14 with fail
      obtain ⟨W, hW⟩ : ∃ W, W = wr.alloc (Obj.cells #[Value.int .i64 kd, Value.int .i64 at_, Value.int .i64 m] 29) := ⟨_, rfl⟩
      have hbW : Below wr.heap.size wr W := by rw [hW]; go_grown
      have c0 : W.cell? ⟨wr.heap.size, 0, none⟩ = some (.int .i64 kd) := by rw [hW]; go_simp
      have c1 : W.cell? ⟨wr.heap.size, 1, none⟩ = some (.int .i64 at_) := by rw [hW]; go_simp
      have c2 : W.cell? ⟨wr.heap.size, 2, none⟩ = some (.int .i64 m) := by rw [hW]; go_simp
      have KBW := Lib.hid (KBH.out.below hbW)
      have RW := Lib.hid (R.out.below hbW)
      have hOB : B ≤ wr.heap.size := KBH.out.lt.2.2.2.2
      have hROW : ∀ q, (Value.ownBlock (.slice ot nA ct) = some q ∨ va.ownBlock = some q ∨ vn.ownBlock = some q) → q < wr.heap.size := fun q hq => by
        rcases hq with hq | hq | hq
        · exact (R.out.t.lt q hq).2
        · exact (R.out.a.lt q hq).2
        · exact (R.out.n.lt q hq).2
      have HROW := Lib.hid hROW
      rw [← hW]
      clear hW hbW R KBH y0 y1 y2 hmx hkk hM1a hM1b hROW
      generalize wr.heap.size = O at *
      by_cases ha1 : 1048576 < at_
      · have g1 : decide ((1048576 : Int) < at_) = true := by simpa using ha1
        clear ha1
        go_wp2_with fail
        refine (all_any S g xs _ KBW.out.k.1.1 (by have := hl.out; omega)).mono ?_
        rintro e wa ⟨v, rfl, hra, hba⟩
        have hv1 := view_of_own hra
        have kb2 := KBW.out.below hba
        have r2 := RW.out.below hba
        have hv2 := kb2.k.view (by have := hl.out; unfold maxLen; omega)
        rw [hl.out] at hv2
        have KB2 := Lib.hid kb2
        have R2 := Lib.hid r2
        have HV := Lib.hid (And.intro hv1 hv2)
        clear hra hba hv1 hv2 kb2 r2
        go_wp2_with fail
        refine (ints_any _ _ xs xs _ HV.out.1 HV.out.2).mono ?_
        rintro e wb ⟨rfl, nq, rfl⟩
        rw [beq_self_eq_true]
        go_wp2_with fail
        go_roundw
        case rel => exact ⟨j + 1, _, _, _, A, N, xs, rfl, rfl, rfl, by omega, by go_num, HN.out.2, by have := HN.out.1; have := HJ.out; omega, KB2.out.below (below_drewN (Below.refl _ _) _), hl, R2.out.below (below_drewN (Below.refl _ _) _), hbd⟩
        case measure => simp [intOf]; omega
      by_cases ha2 : at_ < -1048576
      · have g1 : decide ((1048576 : Int) < at_) = false := by simp; omega
        have g2 : decide (at_ < -1048576) = true := by simpa using ha2
        clear ha1 ha2
        go_wp2_with fail
        refine (all_any S g xs _ KBW.out.k.1.1 (by have := hl.out; omega)).mono ?_
        rintro e wa ⟨v, rfl, hra, hba⟩
        have hv1 := view_of_own hra
        have kb2 := KBW.out.below hba
        have r2 := RW.out.below hba
        have hv2 := kb2.k.view (by have := hl.out; unfold maxLen; omega)
        rw [hl.out] at hv2
        have KB2 := Lib.hid kb2
        have R2 := Lib.hid r2
        have HV := Lib.hid (And.intro hv1 hv2)
        clear hra hba hv1 hv2 kb2 r2
        go_wp2_with fail
        refine (ints_any _ _ xs xs _ HV.out.1 HV.out.2).mono ?_
        rintro e wb ⟨rfl, nq, rfl⟩
        rw [beq_self_eq_true]
        go_wp2_with fail
        go_roundw
        case rel => exact ⟨j + 1, _, _, _, A, N, xs, rfl, rfl, rfl, by omega, by go_num, HN.out.2, by have := HN.out.1; have := HJ.out; omega, KB2.out.below (below_drewN (Below.refl _ _) _), hl, R2.out.below (below_drewN (Below.refl _ _) _), hbd⟩
        case measure => simp [intOf]; omega
      have g1 : decide ((1048576 : Int) < at_) = false := by simp; omega
      have g2 : decide (at_ < -1048576) = false := by simp; omega
      by_cases hk2 : kd < 2
      · have g3 : decide (kd < 2) = true := by simpa using hk2
        clear hk2
        by_cases hin : 0 ≤ at_ ∧ at_ < n
        · obtain ⟨i, rfl⟩ := Int.eq_ofNat_of_zero_le hin.1
          have hi : i < n := by omega
          clear hin
          obtain ⟨x, hx⟩ : ∃ x, x = xs.getD i 0 := ⟨_, rfl⟩
          have m0 : W.cell? ⟨M, i, none⟩ = some (.int .i64 x) := by rw [hx]; exact KBW.out.k.cell (by rw [hl.out]; exact hi)
          have f0 : W.frozen? ⟨M, i, none⟩ = false := KBW.out.k.free i
          have HX := Lib.hid hx
          have i0 : (0 : Int) ≤ (i : Int) := by omega
          have i1 : (i : Int) < (n : Int) := by omega
          clear hx
          go_wp2_with fail
          refine (in_yes _ n _ i _ hi (by omega)).mono ?_
          rintro e wz ⟨rfl, rfl⟩
          go_upto_region 20 with fail
          have hMO : O ≠ M := by have := KBW.out.lt.2.2.1; omega
          have kb2 := KBW.out.setM i (wrap64 (x + 1))
          have r2 := RW.out.setM (i := i) (x := .int .i64 (wrap64 (x + 1))) KBW.out.lt.2.2.1
          have c0 : (W.setCell ⟨M, i, none⟩ (.int .i64 (wrap64 (x + 1)))).cell? ⟨O, 0, none⟩ = some (.int .i64 kd) := (cell_heap (setM_block O hMO)).trans c0
          have c1 : (W.setCell ⟨M, i, none⟩ (.int .i64 (wrap64 (x + 1)))).cell? ⟨O, 1, none⟩ = some (.int .i64 (i : Int)) := (cell_heap (setM_block O hMO)).trans c1
          have c2 : (W.setCell ⟨M, i, none⟩ (.int .i64 (wrap64 (x + 1)))).cell? ⟨O, 2, none⟩ = some (.int .i64 m) := (cell_heap (setM_block O hMO)).trans c2
          have KB2 := Lib.hid kb2
          have R2 := Lib.hid r2
          clear kb2 r2 m0 f0
          generalize W.setCell ⟨M, i, none⟩ (.int .i64 (wrap64 (x + 1))) = W2 at *
          go_wp2_with fail
          refine (task_j S g xs i x w _ KB2.out.k.1 (Lib.hid HX.out.symm) (by rw [hl.out]; exact hi) (by rw [hl.out]; omega)).mono ?_
          rintro e w3 ⟨rfl, hj3, hk3⟩
          have KB3 := Lib.hid (KB2.out.call hj3 hk3)
          have R3' := Lib.hid (R2.out.keep hk3 KB2.out.lt.2.1)
          have hOg : O ≠ g := by have := KB2.out.lt.2.1; omega
          have c0 := hk3.cell c0 hOg
          have c1 := hk3.cell c1 hOg
          have c2 := hk3.cell c2 hOg
          clear hj3 hk3
          have hbx : Below w3.heap.size w3 (w3.alloc (.cells #[.int .i64 (i : Int), .int .i64 x] 33)) := (Below.refl _ _).alloc (Nat.le_refl _) _
          have KB3' := Lib.hid (KB3.out.below hbx)
          have R3'' := Lib.hid (R3'.out.below hbx)
          have d0 := (Keep.of_below (g := O + 1) hbx).cell c0 (by omega)
          have d1 := (Keep.of_below (g := O + 1) hbx).cell c1 (by omega)
          have d2 := (Keep.of_below (g := O + 1) hbx).cell c2 (by omega)
          clear hbx
          go_wp2_with (at_builtin; refine wpList_appT rfl _ _ rfl B (.slice ot nA ct) A N HN.out.2 rfl ⟨w3.heap.size, 0, none⟩ rfl (i : Int) x ?tA1 ?tA2 ?tA3 rfl ?tA4 ?tA5 ?_)
          case tA1 => exact R3''.out.t
          case tA2 => go_simp
          case tA3 => first | (go_simp; done) | (rw [Go.WideShapes.add_plain]; go_simp)
          case tA4 => have := HN.out.1; omega
          case tA5 => exact KB3'.out.lt.2.2.2.2
          intro vt2 w4 hr4 hg4 ho4
          have hne4 : ∀ q, Value.ownBlock (.slice ot nA ct) = some q → O ≠ q := fun q hq => by have := HROW.out q (.inl hq); omega
          have c0 := hg4.cell d0 (fun e => hne4 O e.symm rfl)
          have c1 := hg4.cell d1 (fun e => hne4 O e.symm rfl)
          have c2 := hg4.cell d2 (fun e => hne4 O e.symm rfl)
          have KB4 := Lib.hid (KB3'.out.grown hg4 (fun q hq => (R3''.out.t.lt q hq).1))
          have r4 := R3''.out.appT (A' := A ++ [(i : Int)]) (N' := N ++ [x]) (by simpa using hr4) hg4 (by simpa using ho4)
          have hlA : (A ++ [(i : Int)]).length = nA + 1 := by rw [List.length_append, ← HN.out.1]; rfl
          obtain ⟨o2, c2', e2, hc2, ho2⟩ := own_form r4.t
          obtain ⟨q2, rfl⟩ := ho2 (by omega)
          rw [hlA] at e2 hc2
          subst e2
          have R4 := Lib.hid r4
          have HLA := Lib.hid hlA
          clear r4 hr4 hg4 ho4 hne4 ho2 hlA d0 d1 d2
          have hbx : Below w4.heap.size w4 (w4.alloc (.cells #[.int .i64 (i : Int)] 3)) := (Below.refl _ _).alloc (Nat.le_refl _) _
          have KB4' := Lib.hid (KB4.out.below hbx)
          have R4' := Lib.hid (R4.out.below hbx)
          have d0 := (Keep.of_below (g := O + 1) hbx).cell c0 (by omega)
          have d1 := (Keep.of_below (g := O + 1) hbx).cell c1 (by omega)
          have d2 := (Keep.of_below (g := O + 1) hbx).cell c2 (by omega)
          clear hbx
          go_wp2_with (at_builtin; refine wpList_app1 rfl _ _ rfl B va A rfl ⟨w4.heap.size, 0, none⟩ 1 rfl (i : Int) ?aA1 ?aA2 rfl ?aA3 ?aA4 ?_)
          case aA1 => exact R4'.out.a
          case aA2 => go_simp
          case aA3 => have := HN.out.1; omega
          case aA4 => exact KB4'.out.lt.2.2.2.2
          intro va2 w5 hr5 hg5 ho5
          have hne5 : ∀ q, va.ownBlock = some q → O ≠ q := fun q hq => by have := HROW.out q (.inr (.inl hq)); omega
          have c0 := hg5.cell d0 (fun e => hne5 O e.symm rfl)
          have c1 := hg5.cell d1 (fun e => hne5 O e.symm rfl)
          have c2 := hg5.cell d2 (fun e => hne5 O e.symm rfl)
          have KB5 := Lib.hid (KB4'.out.grown hg5 (fun q hq => (R4'.out.a.lt q hq).1))
          have R5 := Lib.hid (R4'.out.appA (A' := A ++ [(i : Int)]) (by simpa using hr5) hg5 (by simpa using ho5))
          clear hr5 hg5 ho5 hne5 d0 d1 d2
          have hbx : Below w5.heap.size w5 (w5.alloc (.cells #[.int .i64 x] 3)) := (Below.refl _ _).alloc (Nat.le_refl _) _
          have KB5' := Lib.hid (KB5.out.below hbx)
          have R5' := Lib.hid (R5.out.below hbx)
          clear hbx c0 c1 c2
          go_wp2_with (at_builtin; refine wpList_app1 rfl _ _ rfl B vn N rfl ⟨w5.heap.size, 0, none⟩ 1 rfl x ?nA1 ?nA2 rfl ?nA3 ?nA4 ?_)
          case nA1 => exact R5'.out.n
          case nA2 => go_simp
          case nA3 => have h1 := HN.out.1; have h2 := HN.out.2; omega
          case nA4 => exact KB5'.out.lt.2.2.2.2
          intro vn2 w6 hr6 hg6 ho6
          have KB6 := Lib.hid (KB5'.out.grown hg6 (fun q hq => (R5'.out.n.lt q hq).1))
          have r6 := R5'.out.appN (N' := N ++ [x]) (by simpa using hr6) hg6 (by simpa using ho6)
          have hAN2 : (A ++ [(i : Int)]).length = (N ++ [x]).length := by rw [List.length_append, List.length_append, HN.out.2]; rfl
          have hcl := tp_at (A ++ [(i : Int)]) (N ++ [x]) nA hAN2 (by rw [HLA.out]; omega)
          have e1 : (A ++ [(i : Int)]).getD nA 0 = (i : Int) := by have h1 := HN.out.1; simp [h1]
          have e2 : (N ++ [x]).getD nA 0 = x := by have h1 := HN.out.1; have h2 := HN.out.2; rw [h1, h2]; simp
          rw [e1, e2] at hcl
          have t0 : w6.cell? ⟨q2, nA * 2, none⟩ = some (.int .i64 (i : Int)) := own_cell2 (by have := r6.t; rw [HLA.out] at this; exact this) hcl.1
          have t1 : w6.cell? ⟨q2, nA * 2 + 1, none⟩ = some (.int .i64 x) := own_cell2 (by have := r6.t; rw [HLA.out] at this; exact this) hcl.2
          have R6 := Lib.hid r6
          have HAN2 := Lib.hid hAN2
          have q0 : IntKind.i64.wrap ((nA : Int) + 1 - 1) = (nA : Int) := by rw [IntKind.wrap_i64]; omega
          clear r6 hr6 hg6 ho6 hcl e1 e2 hAN2
          go_wp2_with fail
          refine (tnumber_j S g _ (i : Int) x w _ KB6.out.k.1).mono ?_
          rintro e w7 ⟨rfl, hj7, hk7⟩
          have KB7 := Lib.hid (KB6.out.call hj7 hk7)
          have R7 := Lib.hid (R6.out.keep hk7 KB6.out.lt.2.1)
          have hbd2 : Hid (∀ q, q < (A ++ [(i : Int)]).length → -1048576 ≤ (A ++ [(i : Int)]).getD q 0 ∧ (A ++ [(i : Int)]).getD q 0 ≤ 1048576) := Lib.hid (fun q hq => by
            by_cases e : q < A.length
            · have := hbd.out q e
              simpa [List.getElem?_append_left e] using this
            · have : q = A.length := by rw [List.length_append] at hq; simp at hq; omega
              subst this
              simp
              omega)
          clear hj7 hk7 t0 t1
          go_wp2_with fail
          refine (all_any S g (xs.set i (wrap64 (x + 1))) _ KB7.out.k.1.1 (by have := (len_set hl i (wrap64 (x + 1))).out; omega)).mono ?_
          rintro e wa ⟨v, rfl, hra, hba⟩
          have hv1 := view_of_own hra
          have kb2 := KB7.out.below hba
          have r2 := R7.out.below hba
          have hv2 := kb2.k.view (by have := (len_set hl i (wrap64 (x + 1))).out; unfold maxLen; omega)
          rw [(len_set hl i (wrap64 (x + 1))).out] at hv2
          have KB2 := Lib.hid kb2
          have R2 := Lib.hid r2
          have HV := Lib.hid (And.intro hv1 hv2)
          clear hra hba hv1 hv2 kb2 r2
          go_wp2_with fail
          refine (ints_any _ _ (xs.set i (wrap64 (x + 1))) (xs.set i (wrap64 (x + 1))) _ HV.out.1 HV.out.2).mono ?_
          rintro e wb ⟨rfl, nq, rfl⟩
          rw [beq_self_eq_true]
          go_wp2_with fail
          go_roundw
          case rel => exact ⟨j + 1, _, _, _, (A ++ [(i : Int)]), (N ++ [x]), (xs.set i (wrap64 (x + 1))), rfl, rfl, rfl, by omega, by go_num, HAN2.out, by have h1 := HLA.out; have h2 := HJ.out; have h3 := HN.out.1; omega, KB2.out.below (below_drewN (Below.refl _ _) _), (len_set hl i (wrap64 (x + 1))), R2.out.below (below_drewN (Below.refl _ _) _), hbd2⟩
          case measure => simp [intOf]; omega
        · have hout : at_ < 0 ∨ (n : Int) ≤ at_ := by omega
          have HO := Lib.hid hout
          clear hin hout
          go_wp2_with fail
          refine (in_no _ n _ at_ _ HO.out (by omega)).mono ?_
          rintro e wz ⟨rfl, rfl⟩
          have KB2 := KBW
          have R2 := RW
          go_wp2_with fail
          refine (task_out S g xs at_ w _ KB2.out.k.1 (by rw [hl.out]; exact HO.out)).mono ?_
          rintro e w3 ⟨rfl, hj3, hk3⟩
          have KB3 := Lib.hid (KB2.out.call hj3 hk3)
          have R3' := Lib.hid (R2.out.keep hk3 KB2.out.lt.2.1)
          have hOg : O ≠ g := by have := KB2.out.lt.2.1; omega
          have c0 := hk3.cell c0 hOg
          have c1 := hk3.cell c1 hOg
          have c2 := hk3.cell c2 hOg
          clear hj3 hk3
          have hbx : Below w3.heap.size w3 (w3.alloc (.cells #[.int .i64 at_, .int .i64 0] 33)) := (Below.refl _ _).alloc (Nat.le_refl _) _
          have KB3' := Lib.hid (KB3.out.below hbx)
          have R3'' := Lib.hid (R3'.out.below hbx)
          have d0 := (Keep.of_below (g := O + 1) hbx).cell c0 (by omega)
          have d1 := (Keep.of_below (g := O + 1) hbx).cell c1 (by omega)
          have d2 := (Keep.of_below (g := O + 1) hbx).cell c2 (by omega)
          clear hbx
          go_wp2_with (at_builtin; refine wpList_appT rfl _ _ rfl B (.slice ot nA ct) A N HN.out.2 rfl ⟨w3.heap.size, 0, none⟩ rfl at_ 0 ?tB1 ?tB2 ?tB3 rfl ?tB4 ?tB5 ?_)
          case tB1 => exact R3''.out.t
          case tB2 => go_simp
          case tB3 => first | (go_simp; done) | (rw [Go.WideShapes.add_plain]; go_simp)
          case tB4 => have := HN.out.1; omega
          case tB5 => exact KB3'.out.lt.2.2.2.2
          intro vt2 w4 hr4 hg4 ho4
          have hne4 : ∀ q, Value.ownBlock (.slice ot nA ct) = some q → O ≠ q := fun q hq => by have := HROW.out q (.inl hq); omega
          have c0 := hg4.cell d0 (fun e => hne4 O e.symm rfl)
          have c1 := hg4.cell d1 (fun e => hne4 O e.symm rfl)
          have c2 := hg4.cell d2 (fun e => hne4 O e.symm rfl)
          have KB4 := Lib.hid (KB3'.out.grown hg4 (fun q hq => (R3''.out.t.lt q hq).1))
          have r4 := R3''.out.appT (A' := A ++ [at_]) (N' := N ++ [0]) (by simpa using hr4) hg4 (by simpa using ho4)
          have hlA : (A ++ [at_]).length = nA + 1 := by rw [List.length_append, ← HN.out.1]; rfl
          obtain ⟨o2, c2', e2, hc2, ho2⟩ := own_form r4.t
          obtain ⟨q2, rfl⟩ := ho2 (by omega)
          rw [hlA] at e2 hc2
          subst e2
          have R4 := Lib.hid r4
          have HLA := Lib.hid hlA
          clear r4 hr4 hg4 ho4 hne4 ho2 hlA d0 d1 d2
          have hbx : Below w4.heap.size w4 (w4.alloc (.cells #[.int .i64 at_] 3)) := (Below.refl _ _).alloc (Nat.le_refl _) _
          have KB4' := Lib.hid (KB4.out.below hbx)
          have R4' := Lib.hid (R4.out.below hbx)
          have d0 := (Keep.of_below (g := O + 1) hbx).cell c0 (by omega)
          have d1 := (Keep.of_below (g := O + 1) hbx).cell c1 (by omega)
          have d2 := (Keep.of_below (g := O + 1) hbx).cell c2 (by omega)
          clear hbx
          go_wp2_with (at_builtin; refine wpList_app1 rfl _ _ rfl B va A rfl ⟨w4.heap.size, 0, none⟩ 1 rfl at_ ?aB1 ?aB2 rfl ?aB3 ?aB4 ?_)
          case aB1 => exact R4'.out.a
          case aB2 => go_simp
          case aB3 => have := HN.out.1; omega
          case aB4 => exact KB4'.out.lt.2.2.2.2
          intro va2 w5 hr5 hg5 ho5
          have hne5 : ∀ q, va.ownBlock = some q → O ≠ q := fun q hq => by have := HROW.out q (.inr (.inl hq)); omega
          have c0 := hg5.cell d0 (fun e => hne5 O e.symm rfl)
          have c1 := hg5.cell d1 (fun e => hne5 O e.symm rfl)
          have c2 := hg5.cell d2 (fun e => hne5 O e.symm rfl)
          have KB5 := Lib.hid (KB4'.out.grown hg5 (fun q hq => (R4'.out.a.lt q hq).1))
          have R5 := Lib.hid (R4'.out.appA (A' := A ++ [at_]) (by simpa using hr5) hg5 (by simpa using ho5))
          clear hr5 hg5 ho5 hne5 d0 d1 d2
          have hbx : Below w5.heap.size w5 (w5.alloc (.cells #[.int .i64 0] 3)) := (Below.refl _ _).alloc (Nat.le_refl _) _
          have KB5' := Lib.hid (KB5.out.below hbx)
          have R5' := Lib.hid (R5.out.below hbx)
          clear hbx c0 c1 c2
          go_wp2_with (at_builtin; refine wpList_app1 rfl _ _ rfl B vn N rfl ⟨w5.heap.size, 0, none⟩ 1 rfl 0 ?nB1 ?nB2 rfl ?nB3 ?nB4 ?_)
          case nB1 => exact R5'.out.n
          case nB2 => go_simp
          case nB3 => have h1 := HN.out.1; have h2 := HN.out.2; omega
          case nB4 => exact KB5'.out.lt.2.2.2.2
          intro vn2 w6 hr6 hg6 ho6
          have KB6 := Lib.hid (KB5'.out.grown hg6 (fun q hq => (R5'.out.n.lt q hq).1))
          have r6 := R5'.out.appN (N' := N ++ [0]) (by simpa using hr6) hg6 (by simpa using ho6)
          have hAN2 : (A ++ [at_]).length = (N ++ [0]).length := by rw [List.length_append, List.length_append, HN.out.2]; rfl
          have hcl := tp_at (A ++ [at_]) (N ++ [0]) nA hAN2 (by rw [HLA.out]; omega)
          have e1 : (A ++ [at_]).getD nA 0 = at_ := by have h1 := HN.out.1; simp [h1]
          have e2 : (N ++ [0]).getD nA 0 = 0 := by have h1 := HN.out.1; have h2 := HN.out.2; rw [h1, h2]; simp
          rw [e1, e2] at hcl
          have t0 : w6.cell? ⟨q2, nA * 2, none⟩ = some (.int .i64 at_) := own_cell2 (by have := r6.t; rw [HLA.out] at this; exact this) hcl.1
          have t1 : w6.cell? ⟨q2, nA * 2 + 1, none⟩ = some (.int .i64 0) := own_cell2 (by have := r6.t; rw [HLA.out] at this; exact this) hcl.2
          have R6 := Lib.hid r6
          have HAN2 := Lib.hid hAN2
          have q0 : IntKind.i64.wrap ((nA : Int) + 1 - 1) = (nA : Int) := by rw [IntKind.wrap_i64]; omega
          clear r6 hr6 hg6 ho6 hcl e1 e2 hAN2
          go_wp2_with fail
          refine (tnumber_j S g _ at_ 0 w _ KB6.out.k.1).mono ?_
          rintro e w7 ⟨rfl, hj7, hk7⟩
          have KB7 := Lib.hid (KB6.out.call hj7 hk7)
          have R7 := Lib.hid (R6.out.keep hk7 KB6.out.lt.2.1)
          have hbd2 : Hid (∀ q, q < (A ++ [at_]).length → -1048576 ≤ (A ++ [at_]).getD q 0 ∧ (A ++ [at_]).getD q 0 ≤ 1048576) := Lib.hid (fun q hq => by
            by_cases e : q < A.length
            · have := hbd.out q e
              simpa [List.getElem?_append_left e] using this
            · have : q = A.length := by rw [List.length_append] at hq; simp at hq; omega
              subst this
              simp
              omega)
          clear hj7 hk7 t0 t1
          go_wp2_with fail
          refine (all_any S g xs _ KB7.out.k.1.1 (by have := hl.out; omega)).mono ?_
          rintro e wa ⟨v, rfl, hra, hba⟩
          have hv1 := view_of_own hra
          have kb2 := KB7.out.below hba
          have r2 := R7.out.below hba
          have hv2 := kb2.k.view (by have := hl.out; unfold maxLen; omega)
          rw [hl.out] at hv2
          have KB2 := Lib.hid kb2
          have R2 := Lib.hid r2
          have HV := Lib.hid (And.intro hv1 hv2)
          clear hra hba hv1 hv2 kb2 r2
          go_wp2_with fail
          refine (ints_any _ _ xs xs _ HV.out.1 HV.out.2).mono ?_
          rintro e wb ⟨rfl, nq, rfl⟩
          rw [beq_self_eq_true]
          go_wp2_with fail
          go_roundw
          case rel => exact ⟨j + 1, _, _, _, (A ++ [at_]), (N ++ [0]), xs, rfl, rfl, rfl, by omega, by go_num, HAN2.out, by have h1 := HLA.out; have h2 := HJ.out; have h3 := HN.out.1; omega, KB2.out.below (below_drewN (Below.refl _ _) _), hl, R2.out.below (below_drewN (Below.refl _ _) _), hbd2⟩
          case measure => simp [intOf]; omega
      have g3 : decide (kd < 2) = false := by simp; omega
      by_cases hn0 : nA = 0
      · subst hn0
        clear hk2
        go_wp2_with fail
        refine (all_any S g xs _ KBW.out.k.1.1 (by have := hl.out; omega)).mono ?_
        rintro e wa ⟨v, rfl, hra, hba⟩
        have hv1 := view_of_own hra
        have kb2 := KBW.out.below hba
        have r2 := RW.out.below hba
        have hv2 := kb2.k.view (by have := hl.out; unfold maxLen; omega)
        rw [hl.out] at hv2
        have KB2 := Lib.hid kb2
        have R2 := Lib.hid r2
        have HV := Lib.hid (And.intro hv1 hv2)
        clear hra hba hv1 hv2 kb2 r2
        go_wp2_with fail
        refine (ints_any _ _ xs xs _ HV.out.1 HV.out.2).mono ?_
        rintro e wb ⟨rfl, nq, rfl⟩
        rw [beq_self_eq_true]
        go_wp2_with fail
        go_roundw
        case rel => exact ⟨j + 1, _, _, _, A, N, xs, rfl, rfl, rfl, by omega, by go_num, HN.out.2, by have := HN.out.1; have := HJ.out; omega, KB2.out.below (below_drewN (Below.refl _ _) _), hl, R2.out.below (below_drewN (Below.refl _ _) _), hbd⟩
        case measure => simp [intOf]; omega
      have g4 : ((nA : Int) == 0) = false := by simp; omega
      by_cases hkd2 : kd = 2
      case pos =>
        have hkn : k < nA := by have := HM1.out; omega
        obtain ⟨q1, rfl⟩ := HOT.out (by omega)
        obtain ⟨oa, ca, ea, hca, hoa⟩ := own_form RW.out.a
        obtain ⟨on, cn, en, hcn, hon⟩ := own_form RW.out.n
        obtain ⟨q2, rfl⟩ := hoa (by rw [← HN.out.1]; omega)
        obtain ⟨q3, rfl⟩ := hon (by rw [← HN.out.2, ← HN.out.1]; omega)
        rw [← HN.out.1] at ea hca
        rw [← HN.out.2, ← HN.out.1] at en hcn
        subst ea
        subst en
        have htp := tp_at A N k HN.out.2 (by rw [← HN.out.1]; exact hkn)
        have hbk := hbd.out k (by rw [← HN.out.1]; exact hkn)
        obtain ⟨a, hae⟩ : ∃ a, a = A.getD k 0 := ⟨_, rfl⟩
        obtain ⟨nk, hne⟩ : ∃ nk, nk = N.getD k 0 := ⟨_, rfl⟩
        rw [← hae] at htp hbk
        rw [← hne] at htp
        have t0 : W.cell? ⟨q1, k * 2, none⟩ = some (.int .i64 a) := own_cell2 (by have := RW.out.t; rw [← HN.out.1] at this; exact this) htp.1
        have t1 : W.cell? ⟨q1, k * 2 + 1, none⟩ = some (.int .i64 nk) := own_cell2 (by have := RW.out.t; rw [← HN.out.1] at this; exact this) htp.2
        have ac : W.cell? ⟨q2, k, none⟩ = some (.int .i64 a) := own_cell (by have := RW.out.a; rw [← HN.out.1] at this; exact this) (by
          have h1 : k < A.length := by rw [← HN.out.1]; exact hkn
          rw [hae]; simp [h1])
        have nc : W.cell? ⟨q3, k, none⟩ = some (.int .i64 nk) := own_cell (by have := RW.out.n; rw [← HN.out.2, ← HN.out.1] at this; exact this) (by
          have h1 : k < N.length := by rw [← HN.out.2, ← HN.out.1]; exact hkn
          rw [hne]; simp [h1])
        have hq1g : q1 ≠ g := by have h1 := (RW.out.t.lt q1 rfl).1; have h2 := KBW.out.lt.2.1; omega
        have hq2g : q2 ≠ g := by have h1 := (RW.out.a.lt q2 rfl).1; have h2 := KBW.out.lt.2.1; omega
        have hq3g : q3 ≠ g := by have h1 := (RW.out.n.lt q3 rfl).1; have h2 := KBW.out.lt.2.1; omega
        have hq2M : q2 ≠ M := by have h1 := (RW.out.a.lt q2 rfl).1; have h2 := KBW.out.lt.2.2.1; omega
        have hq3M : q3 ≠ M := by have h1 := (RW.out.n.lt q3 rfl).1; have h2 := KBW.out.lt.2.2.1; omega
        obtain ⟨b, hb⟩ : ∃ b : Int, a + 1 = b := ⟨_, rfl⟩
        have hwb : IntKind.i64.wrap (a + 1) = b := by rw [IntKind.wrap_i64]; omega
        have HB := Lib.hid hb
        have k0 : (0 : Int) ≤ (k : Int) := by omega
        have k1 : (k : Int) < (nA : Int) := by omega
        have HGG := Lib.hid (And.intro hq1g (And.intro hq2g (And.intro hq3g (And.intro hq2M hq3M))))
        clear htp hae hne hb hoa hon hq1g hq2g hq3g hq2M hq3M HOT
        by_cases hin : 0 ≤ b ∧ b < n
        case pos =>
          obtain ⟨i, rfl⟩ := Int.eq_ofNat_of_zero_le hin.1
          have hi : i < n := by omega
          clear hin
          obtain ⟨x, hx⟩ : ∃ x, xs.getD i 0 = x := ⟨_, rfl⟩
          have mc : W.cell? ⟨M, i, none⟩ = some (.int .i64 x) := by rw [← hx]; exact KBW.out.k.cell (by rw [hl.out]; exact hi)
          obtain ⟨qb, hqb⟩ : ∃ qb, (x == nk) = qb := ⟨_, rfl⟩
          have HXX := Lib.hid hx
          have HQB := Lib.hid hqb
          have i0 : (0 : Int) ≤ (i : Int) := by omega
          have i1 : (i : Int) < (n : Int) := by omega
          have hkd : (kd == 2) = true := by simp [hkd2]
          clear hx hkd2
          go_upto_region 27 with fail
          go_region_held3 (fun w' => Below W.heap.size W w' ∧ w'.cell? ⟨q1, k * 2, none⟩ = some (.int .i64 a) ∧ w'.cell? ⟨q1, k * 2 + 1, none⟩ = some (.int .i64 nk) ∧ w'.cell? ⟨q2, k, none⟩ = some (.int .i64 a) ∧ w'.cell? ⟨q3, k, none⟩ = some (.int .i64 nk) ∧ w'.cell? ⟨M, i, none⟩ = some (.int .i64 x))
            (first | with_reducible assumption | exact keep6 (by with_reducible assumption) (by with_reducible assumption) | exact keep6 ⟨Below.refl _ _, t0, t1, ac, nc, mc⟩ (b_drew W))
            (first | (go_at_call 20; refine (tmine_b S g i xs a nk x qb w _ (KBW.out.k.1.below' (And.left (by assumption))) HB HXX HQB (by rw [hl.out]; exact hi) (by rw [hl.out]; omega)).mono ?_; rintro e w1 ⟨rfl, hb1⟩)
                   | (go_at_call 17; refine (in_yes _ n _ i _ hi (by omega)).mono ?_; rintro e w1 ⟨rfl, rfl⟩))
          all_goals
            rename_i wq hHq
            have KB3 := Lib.hid (KBW.out.below hHq.1)
            have R3' := Lib.hid (RW.out.below hHq.1)
            clear hHq
            go_wp2_with fail
            refine (all_any S g xs _ KB3.out.k.1.1 (by have := hl.out; omega)).mono ?_
            rintro e wa ⟨v, rfl, hra, hba⟩
            have hv1 := view_of_own hra
            have kb2 := KB3.out.below hba
            have r2 := R3'.out.below hba
            have hv2 := kb2.k.view (by have := hl.out; unfold maxLen; omega)
            rw [hl.out] at hv2
            have KB2 := Lib.hid kb2
            have R2 := Lib.hid r2
            have HV := Lib.hid (And.intro hv1 hv2)
            clear hra hba hv1 hv2 kb2 r2
            go_wp2_with fail
            refine (ints_any _ _ xs xs _ HV.out.1 HV.out.2).mono ?_
            rintro e wb ⟨rfl, nq, rfl⟩
            rw [beq_self_eq_true]
            go_wp2_with fail
            go_roundw
            case rel => exact ⟨j + 1, _, _, _, A, N, xs, rfl, rfl, rfl, by omega, by go_num, HN.out.2, by have := HN.out.1; have := HJ.out; omega, KB2.out.below (below_drewN (Below.refl _ _) _), hl, R2.out.below (below_drewN (Below.refl _ _) _), hbd⟩
            case measure => simp [intOf]; omega
        case neg =>
          have hout : b < 0 ∨ (n : Int) ≤ b := by omega
          have HO := Lib.hid hout
          have hkd : (kd == 2) = true := by simp [hkd2]
          clear hin hout hkd2
          go_upto_region 27 with fail
          refine wp_region_held_drew (S := (fun w' => Below W.heap.size W w' ∧ w'.cell? ⟨q1, k * 2, none⟩ = some (.int .i64 a) ∧ w'.cell? ⟨q1, k * 2 + 1, none⟩ = some (.int .i64 nk) ∧ w'.cell? ⟨q2, k, none⟩ = some (.int .i64 a))) (by kernel_rfl) (keep4' ⟨Below.refl _ _, t0, t1, ac⟩ (b_drew W)) (fun hHeld => ?_)
          refine wpAnyH_take (i := 0) (v := ?_) rfl (by kernel_rfl) (by kernel_rfl) (by kernel_rfl) (fun _ _ _ h => h) (Or.inl ⟨by rfl, ?_⟩) (by with_reducible assumption) ?_
          rotate_left
          · (intro w' hSw; (try dsimp only at hSw); go_simp <;> (with_reducible rfl))
          try simp only [Act.put, List.setIfInBounds_toArray, List.set_cons_zero, List.set_cons_succ, List.getElem_toArray, List.getElem_cons_zero, List.getElem_cons_succ]
          refine wpAnyH_take (i := 1) (v := ?_) rfl (by kernel_rfl) (by kernel_rfl) (by kernel_rfl) (fun _ _ _ h => h) (Or.inl ⟨by rfl, ?_⟩) (by with_reducible assumption) ?_
          rotate_left
          · (intro w' hSw; (try dsimp only at hSw); go_simp <;> (with_reducible rfl))
          try simp only [Act.put, List.setIfInBounds_toArray, List.set_cons_zero, List.set_cons_succ, List.getElem_toArray, List.getElem_cons_zero, List.getElem_cons_succ]
          refine wpAnyH_take (i := 2) (v := ?_) rfl (by kernel_rfl) (by kernel_rfl) (by kernel_rfl) (fun _ _ _ h => h) (Or.inl ⟨by rfl, ?_⟩) (by with_reducible assumption) ?_
          rotate_left
          · (intro w' hSw; (try dsimp only at hSw); go_simp <;> (with_reducible rfl))
          try simp only [Act.put, List.setIfInBounds_toArray, List.set_cons_zero, List.set_cons_succ, List.getElem_toArray, List.getElem_cons_zero, List.getElem_cons_succ]
          refine wpAnyH_take (i := 3) (v := ?_) rfl (by kernel_rfl) (by kernel_rfl) (by kernel_rfl) (fun _ _ _ h => h) (Or.inl ⟨by rfl, ?_⟩) (by with_reducible assumption) ?_
          rotate_left
          · (intro w' hSw; (try dsimp only at hSw); go_simp <;> (with_reducible rfl))
          try simp only [Act.put, List.setIfInBounds_toArray, List.set_cons_zero, List.set_cons_succ, List.getElem_toArray, List.getElem_cons_zero, List.getElem_cons_succ]
          refine wpAnyH_take (i := 4) (v := ?_) rfl (by kernel_rfl) (by kernel_rfl) (by kernel_rfl) (fun _ _ _ h => h) (Or.inl ⟨by rfl, ?_⟩) (by with_reducible assumption) ?_
          rotate_left
          · (intro w' hSw; (try dsimp only at hSw); go_simp <;> (with_reducible rfl))
          try simp only [Act.put, List.setIfInBounds_toArray, List.set_cons_zero, List.set_cons_succ, List.getElem_toArray, List.getElem_cons_zero, List.getElem_cons_succ]
          refine wpAnyH_take (i := 6) (v := ?_) rfl (by kernel_rfl) (by kernel_rfl) (by kernel_rfl) (fun _ _ _ h => h) (Or.inl ⟨by rfl, ?_⟩) (by with_reducible assumption) ?_
          rotate_left
          · (intro w' hSw; (try dsimp only at hSw); go_simp <;> (with_reducible rfl))
          try simp only [Act.put, List.setIfInBounds_toArray, List.set_cons_zero, List.set_cons_succ, List.getElem_toArray, List.getElem_cons_zero, List.getElem_cons_succ]
          refine wpAnyH_take (i := 7) (v := ?_) rfl (by kernel_rfl) (by kernel_rfl) (by kernel_rfl) (fun _ _ _ h => h) (Or.inl ⟨by rfl, ?_⟩) (by with_reducible assumption) ?_
          rotate_left
          · (intro w' hSw; (try dsimp only at hSw); go_simp <;> (with_reducible rfl))
          try simp only [Act.put, List.setIfInBounds_toArray, List.set_cons_zero, List.set_cons_succ, List.getElem_toArray, List.getElem_cons_zero, List.getElem_cons_succ]
          refine wpAnyH_take (i := 8) (v := ?_) rfl (by kernel_rfl) (by kernel_rfl) (by kernel_rfl) (fun _ _ _ h => h) (Or.inl ⟨by rfl, ?_⟩) (by with_reducible assumption) ?_
          rotate_left
          · (intro w' hSw; (try dsimp only at hSw); go_simp <;> (with_reducible rfl))
          try simp only [Act.put, List.setIfInBounds_toArray, List.set_cons_zero, List.set_cons_succ, List.getElem_toArray, List.getElem_cons_zero, List.getElem_cons_succ]
          refine wpAnyH_take (i := 9) (v := ?_) rfl (by kernel_rfl) (by kernel_rfl) (by kernel_rfl) (fun _ _ _ h => h) (Or.inl ⟨by rfl, ?_⟩) (by with_reducible assumption) ?_
          rotate_left
          · (intro w' hSw; (try dsimp only at hSw); go_simp <;> (with_reducible rfl))
          try simp only [Act.put, List.setIfInBounds_toArray, List.set_cons_zero, List.set_cons_succ, List.getElem_toArray, List.getElem_cons_zero, List.getElem_cons_succ]
          refine wpAnyH_take (i := 10) (v := ?_) rfl (by kernel_rfl) (by kernel_rfl) (by kernel_rfl) (fun _ _ _ h => h) (Or.inl ⟨by rfl, ?_⟩) (by with_reducible assumption) ?_
          rotate_left
          · (intro w' hSw; (try dsimp only at hSw); go_simp <;> (with_reducible rfl))
          try simp only [Act.put, List.setIfInBounds_toArray, List.set_cons_zero, List.set_cons_succ, List.getElem_toArray, List.getElem_cons_zero, List.getElem_cons_succ]
          refine wpAnyH_take (i := 11) (v := ?_) rfl (by kernel_rfl) (by kernel_rfl) (by kernel_rfl) (fun _ _ _ h => h) (Or.inl ⟨by rfl, ?_⟩) (by with_reducible assumption) ?_
          rotate_left
          · (intro w' hSw; (try dsimp only at hSw); go_simp <;> (with_reducible rfl))
          try simp only [Act.put, List.setIfInBounds_toArray, List.set_cons_zero, List.set_cons_succ, List.getElem_toArray, List.getElem_cons_zero, List.getElem_cons_succ]
          refine wpAnyH_ready (rs := [5]) (by kernel_rfl) (by simp) ?_
          refine AllReadyH.cons rfl (fun K hK => ?_) AllReadyH.nil
          go_simp
          go_at_call 20
          refine (tmine_ob S g xs a b nk w _ (KBW.out.k.1.below' (And.left (by with_reducible assumption))) HB (by omega) (by omega) (by rw [hl.out]; exact HO.out)).mono ?_
          rintro e x1 ⟨rfl, hb1⟩
          have hS1 := keep4' (by with_reducible assumption) hb1
          try (go_wp2_with fail)
          refine hK.out _ _ hS1 (fun hHeld1 => ?_)
          clear hK K hS1
          try simp only [Act.put, List.setIfInBounds_toArray, List.set_cons_zero, List.set_cons_succ, List.getElem_toArray, List.getElem_cons_zero, List.getElem_cons_succ]
          refine wpAnyH_ready (rs := [12]) (by kernel_rfl) (by simp) ?_
          refine AllReadyH.cons rfl (fun K hK => ?_) AllReadyH.nil
          go_simp
          go_at_call 17
          refine (in_no _ n _ b _ HO.out (by omega)).mono ?_
          rintro e x2 ⟨rfl, rfl⟩
          have hS2 := hHeld1
          try (go_wp2_with fail)
          refine hK.out _ _ hS2 (fun hHeld2 => ?_)
          clear hK K hS2
          try simp only [Act.put, List.setIfInBounds_toArray, List.set_cons_zero, List.set_cons_succ, List.getElem_toArray, List.getElem_cons_zero, List.getElem_cons_succ]
          refine wpAnyH_take (i := 13) (v := ?_) rfl (by kernel_rfl) (by kernel_rfl) (by kernel_rfl) (fun _ _ _ h => h) (Or.inl ⟨by rfl, ?_⟩) (by with_reducible assumption) ?_
          rotate_left
          · (intro w' hSw; (try dsimp only at hSw); go_simp <;> (with_reducible rfl))
          try simp only [Act.put, List.setIfInBounds_toArray, List.set_cons_zero, List.set_cons_succ, List.getElem_toArray, List.getElem_cons_zero, List.getElem_cons_succ]
          refine wpAnyH_take (i := 14) (v := undef) rfl (by kernel_rfl) (by kernel_rfl) (by kernel_rfl) (fun _ _ _ h => h) (Or.inr ⟨by rfl, rfl⟩) (by with_reducible assumption) ?_
          try simp only [Act.put, List.setIfInBounds_toArray, List.set_cons_zero, List.set_cons_succ, List.getElem_toArray, List.getElem_cons_zero, List.getElem_cons_succ]
          refine wpAnyH_take (i := 15) (v := undef) rfl (by kernel_rfl) (by kernel_rfl) (by kernel_rfl) (fun _ _ _ h => h) (Or.inr ⟨by rfl, rfl⟩) (by with_reducible assumption) ?_
          try simp only [Act.put, List.setIfInBounds_toArray, List.set_cons_zero, List.set_cons_succ, List.getElem_toArray, List.getElem_cons_zero, List.getElem_cons_succ]
          refine wpAnyH_take (i := 16) (v := undef) rfl (by kernel_rfl) (by kernel_rfl) (by kernel_rfl) (fun _ _ _ h => h) (Or.inr ⟨by rfl, rfl⟩) (by with_reducible assumption) ?_
          try simp only [Act.put, List.setIfInBounds_toArray, List.set_cons_zero, List.set_cons_succ, List.getElem_toArray, List.getElem_cons_zero, List.getElem_cons_succ]
          refine wpAnyH_take (i := 17) (v := undef) rfl (by kernel_rfl) (by kernel_rfl) (by kernel_rfl) (fun _ _ _ h => h) (Or.inr ⟨by rfl, rfl⟩) (by with_reducible assumption) ?_
          try simp only [Act.put, List.setIfInBounds_toArray, List.set_cons_zero, List.set_cons_succ, List.getElem_toArray, List.getElem_cons_zero, List.getElem_cons_succ]
          refine wpAnyH_take (i := 18) (v := undef) rfl (by kernel_rfl) (by kernel_rfl) (by kernel_rfl) (fun _ _ _ h => h) (Or.inr ⟨by rfl, rfl⟩) (by with_reducible assumption) ?_
          try simp only [Act.put, List.setIfInBounds_toArray, List.set_cons_zero, List.set_cons_succ, List.getElem_toArray, List.getElem_cons_zero, List.getElem_cons_succ]
          refine wpAnyH_take (i := 19) (v := undef) rfl (by kernel_rfl) (by kernel_rfl) (by kernel_rfl) (fun _ _ _ h => h) (Or.inr ⟨by rfl, rfl⟩) (by with_reducible assumption) ?_
          try simp only [Act.put, List.setIfInBounds_toArray, List.set_cons_zero, List.set_cons_succ, List.getElem_toArray, List.getElem_cons_zero, List.getElem_cons_succ]
          refine wpAnyH_take (i := 20) (v := undef) rfl (by kernel_rfl) (by kernel_rfl) (by kernel_rfl) (fun _ _ _ h => h) (Or.inr ⟨by rfl, rfl⟩) (by with_reducible assumption) ?_
          try simp only [Act.put, List.setIfInBounds_toArray, List.set_cons_zero, List.set_cons_succ, List.getElem_toArray, List.getElem_cons_zero, List.getElem_cons_succ]
          refine wpAnyH_take (i := 21) (v := undef) rfl (by kernel_rfl) (by kernel_rfl) (by kernel_rfl) (fun _ _ _ h => h) (Or.inr ⟨by rfl, rfl⟩) (by with_reducible assumption) ?_
          try simp only [Act.put, List.setIfInBounds_toArray, List.set_cons_zero, List.set_cons_succ, List.getElem_toArray, List.getElem_cons_zero, List.getElem_cons_succ]
          refine wpAnyH_take (i := 22) (v := undef) rfl (by kernel_rfl) (by kernel_rfl) (by kernel_rfl) (fun _ _ _ h => h) (Or.inr ⟨by rfl, rfl⟩) (by with_reducible assumption) ?_
          try simp only [Act.put, List.setIfInBounds_toArray, List.set_cons_zero, List.set_cons_succ, List.getElem_toArray, List.getElem_cons_zero, List.getElem_cons_succ]
          refine wpAnyH_take (i := 23) (v := undef) rfl (by kernel_rfl) (by kernel_rfl) (by kernel_rfl) (fun _ _ _ h => h) (Or.inr ⟨by rfl, rfl⟩) (by with_reducible assumption) ?_
          try simp only [Act.put, List.setIfInBounds_toArray, List.set_cons_zero, List.set_cons_succ, List.getElem_toArray, List.getElem_cons_zero, List.getElem_cons_succ]
          refine wpAnyH_take (i := 24) (v := undef) rfl (by kernel_rfl) (by kernel_rfl) (by kernel_rfl) (fun _ _ _ h => h) (Or.inr ⟨by rfl, rfl⟩) (by with_reducible assumption) ?_
          try simp only [Act.put, List.setIfInBounds_toArray, List.set_cons_zero, List.set_cons_succ, List.getElem_toArray, List.getElem_cons_zero, List.getElem_cons_succ]
          refine wpAnyH_take (i := 25) (v := undef) rfl (by kernel_rfl) (by kernel_rfl) (by kernel_rfl) (fun _ _ _ h => h) (Or.inr ⟨by rfl, rfl⟩) (by with_reducible assumption) ?_
          try simp only [Act.put, List.setIfInBounds_toArray, List.set_cons_zero, List.set_cons_succ, List.getElem_toArray, List.getElem_cons_zero, List.getElem_cons_succ]
          refine wpAnyH_take (i := 26) (v := undef) rfl (by kernel_rfl) (by kernel_rfl) (by kernel_rfl) (fun _ _ _ h => h) (Or.inr ⟨by rfl, rfl⟩) (by with_reducible assumption) ?_
          try simp only [Act.put, List.setIfInBounds_toArray, List.set_cons_zero, List.set_cons_succ, List.getElem_toArray, List.getElem_cons_zero, List.getElem_cons_succ]
          refine wpAnyH_take (i := 27) (v := ?_) rfl (by kernel_rfl) (by kernel_rfl) (by kernel_rfl) (fun _ _ _ h => h) (Or.inl ⟨by rfl, ?_⟩) (by with_reducible assumption) ?_
          rotate_left
          · (intro w' hSw; (try dsimp only at hSw); go_simp <;> (with_reducible rfl))
          try simp only [Act.put, List.setIfInBounds_toArray, List.set_cons_zero, List.set_cons_succ, List.getElem_toArray, List.getElem_cons_zero, List.getElem_cons_succ]
          refine wpAnyH_take (i := 28) (v := ?_) rfl (by kernel_rfl) (by kernel_rfl) (by kernel_rfl) (fun _ _ _ h => h) (Or.inl ⟨by rfl, ?_⟩) (by with_reducible assumption) ?_
          rotate_left
          · (intro w' hSw; (try dsimp only at hSw); go_simp <;> (with_reducible rfl))
          try simp only [Act.put, List.setIfInBounds_toArray, List.set_cons_zero, List.set_cons_succ, List.getElem_toArray, List.getElem_cons_zero, List.getElem_cons_succ]
          refine wpAnyH_done (by kernel_rfl) ?_ _
          have KB3 := Lib.hid (KBW.out.below hHeld1.1)
          have R3' := Lib.hid (RW.out.below hHeld1.1)
          go_wp2_with fail
          refine (all_any S g xs _ KB3.out.k.1.1 (by have := hl.out; omega)).mono ?_
          rintro e wa ⟨v, rfl, hra, hba⟩
          have hv1 := view_of_own hra
          have kb2 := KB3.out.below hba
          have r2 := R3'.out.below hba
          have hv2 := kb2.k.view (by have := hl.out; unfold maxLen; omega)
          rw [hl.out] at hv2
          have KB2 := Lib.hid kb2
          have R2 := Lib.hid r2
          have HV := Lib.hid (And.intro hv1 hv2)
          clear hra hba hv1 hv2 kb2 r2
          go_wp2_with fail
          refine (ints_any _ _ xs xs _ HV.out.1 HV.out.2).mono ?_
          rintro e wb ⟨rfl, nq, rfl⟩
          rw [beq_self_eq_true]
          go_wp2_with fail
          go_roundw
          case rel => exact ⟨j + 1, _, _, _, A, N, xs, rfl, rfl, rfl, by omega, by go_num, HN.out.2, by have := HN.out.1; have := HJ.out; omega, KB2.out.below (below_drewN (Below.refl _ _) _), hl, R2.out.below (below_drewN (Below.refl _ _) _), hbd⟩
          case measure => simp [intOf]; omega
      have g5 : (kd == 2) = false := by simp [hkd2]
      by_cases hkd3 : kd = 3
      case pos =>
        have hkn : k < nA := by have := HM1.out; omega
        obtain ⟨q1, rfl⟩ := HOT.out (by omega)
        obtain ⟨oa, ca, ea, hca, hoa⟩ := own_form RW.out.a
        obtain ⟨on, cn, en, hcn, hon⟩ := own_form RW.out.n
        obtain ⟨q2, rfl⟩ := hoa (by rw [← HN.out.1]; omega)
        obtain ⟨q3, rfl⟩ := hon (by rw [← HN.out.2, ← HN.out.1]; omega)
        rw [← HN.out.1] at ea hca
        rw [← HN.out.2, ← HN.out.1] at en hcn
        subst ea
        subst en
        have htp := tp_at A N k HN.out.2 (by rw [← HN.out.1]; exact hkn)
        have hbk := hbd.out k (by rw [← HN.out.1]; exact hkn)
        obtain ⟨a, hae⟩ : ∃ a, a = A.getD k 0 := ⟨_, rfl⟩
        obtain ⟨nk, hne⟩ : ∃ nk, nk = N.getD k 0 := ⟨_, rfl⟩
        rw [← hae] at htp hbk
        rw [← hne] at htp
        have t0 : W.cell? ⟨q1, k * 2, none⟩ = some (.int .i64 a) := own_cell2 (by have := RW.out.t; rw [← HN.out.1] at this; exact this) htp.1
        have t1 : W.cell? ⟨q1, k * 2 + 1, none⟩ = some (.int .i64 nk) := own_cell2 (by have := RW.out.t; rw [← HN.out.1] at this; exact this) htp.2
        have ac : W.cell? ⟨q2, k, none⟩ = some (.int .i64 a) := own_cell (by have := RW.out.a; rw [← HN.out.1] at this; exact this) (by
          have h1 : k < A.length := by rw [← HN.out.1]; exact hkn
          rw [hae]; simp [h1])
        have nc : W.cell? ⟨q3, k, none⟩ = some (.int .i64 nk) := own_cell (by have := RW.out.n; rw [← HN.out.2, ← HN.out.1] at this; exact this) (by
          have h1 : k < N.length := by rw [← HN.out.2, ← HN.out.1]; exact hkn
          rw [hne]; simp [h1])
        have hq1g : q1 ≠ g := by have h1 := (RW.out.t.lt q1 rfl).1; have h2 := KBW.out.lt.2.1; omega
        have hq2g : q2 ≠ g := by have h1 := (RW.out.a.lt q2 rfl).1; have h2 := KBW.out.lt.2.1; omega
        have hq3g : q3 ≠ g := by have h1 := (RW.out.n.lt q3 rfl).1; have h2 := KBW.out.lt.2.1; omega
        have hq2M : q2 ≠ M := by have h1 := (RW.out.a.lt q2 rfl).1; have h2 := KBW.out.lt.2.2.1; omega
        have hq3M : q3 ≠ M := by have h1 := (RW.out.n.lt q3 rfl).1; have h2 := KBW.out.lt.2.2.1; omega
        obtain ⟨b, hb⟩ : ∃ b : Int, a + 1 = b := ⟨_, rfl⟩
        have hwb : IntKind.i64.wrap (a + 1) = b := by rw [IntKind.wrap_i64]; omega
        have HB := Lib.hid hb
        have k0 : (0 : Int) ≤ (k : Int) := by omega
        have k1 : (k : Int) < (nA : Int) := by omega
        have HGG := Lib.hid (And.intro hq1g (And.intro hq2g (And.intro hq3g (And.intro hq2M hq3M))))
        clear htp hae hne hb hoa hon hq1g hq2g hq3g hq2M hq3M HOT
        obtain ⟨m', hm'⟩ : ∃ m', wrap64 (nk + 1) = m' := ⟨_, rfl⟩
        have HM2 := Lib.hid hm'
        have hwn : IntKind.i64.wrap (nk + 1) = m' := by rw [← hm', IntKind.wrap_i64]; unfold wrap64; omega
        have hkd : (kd == 3) = true := by simp [hkd3]
        clear hm' hkd3
        have hJW := KBW.out.k.1
        by_cases hin : 0 ≤ b ∧ b < n
        case pos =>
          obtain ⟨i, rfl⟩ := Int.eq_ofNat_of_zero_le hin.1
          have hi : i < n := by omega
          clear hin
          have i0 : (0 : Int) ≤ (i : Int) := by omega
          have i1 : (i : Int) < (n : Int) := by omega
          go_upto_region 30 with fail
          go_region_held3 (fun w' => Keep g W w' ∧ w'.cell? ⟨q1, k * 2, none⟩ = some (.int .i64 a) ∧ w'.cell? ⟨q1, k * 2 + 1, none⟩ = some (.int .i64 nk) ∧ w'.cell? ⟨q2, k, none⟩ = some (.int .i64 a))
            (first | with_reducible assumption | exact keepK HGG.out.1 HGG.out.2.1 (by with_reducible assumption) (by with_reducible assumption) | exact keepK HGG.out.1 HGG.out.2.1 ⟨Keep.refl _ _, t0, t1, ac⟩ (Keep.of_below (b_drew W)))
            (first | (go_at_call 21; refine (tleave_j S g i xs a nk m' w _ (hJW.below' (by go_grown)) HB HM2 (by rw [hl.out]; exact hi) (by rw [hl.out]; omega)).mono ?_; rintro e w1 ⟨rfl, hj1, hk1⟩)
                   | (go_at_call 17; refine (in_yes _ n _ i _ hi (by omega)).mono ?_; rintro e w1 ⟨rfl, rfl⟩))
          rename_i wq hHq
          have kb2 := KBW.out.call hj1 hHq.1
          have r2 := RW.out.keep hHq.1 KBW.out.lt.2.1
          have ac2 := hHq.1.cell ac HGG.out.2.1
          have nc2 := hHq.1.cell nc HGG.out.2.2.1
          have KB2 := Lib.hid kb2
          have R2 := Lib.hid r2
          clear hHq hj1 hk1 kb2 r2 t0 t1 ac nc c0 c1 c2 hJW
          go_wp2_with fail
          refine (in_yes _ n _ i _ hi (by omega)).mono ?_
          rintro e wz ⟨rfl, rfl⟩
          go_upto_region 33 with fail
          have mc2 := KB2.out.k.cell (i := i) (by rw [hl.out]; exact hi)
          have mf2 := KB2.out.k.free i
          go_region_held3 (fun w' => w'.cell? ⟨q2, k, none⟩ = some (.int .i64 a) ∧ w'.cell? ⟨q3, k, none⟩ = some (.int .i64 nk))
            (first | with_reducible assumption | exact ⟨ac2, nc2⟩ | exact ⟨(cell_heap (by exact setM_block q2 HGG.out.2.2.2.1)).trans ac2, (cell_heap (by exact setM_block q3 HGG.out.2.2.2.2)).trans nc2⟩)
            (fail)
          have kb4 := KB2.out.setM i m'
          have r4 := R2.out.setM (i := i) (x := .int .i64 m') KB2.out.lt.2.2.1
          have KB4 := Lib.hid kb4
          have R4 := Lib.hid r4
          have KBx := Lib.hid (KB4.out.below (b_drew _))
          have Rx := Lib.hid (R4.out.below (b_drew _))
          clear kb4 r4 mc2 mf2
          go_wp2_with fail
          refine (all_any S g (xs.set i m') _ KBx.out.k.1.1 (by have := (len_set hl i m').out; omega)).mono ?_
          rintro e wa ⟨v, rfl, hra, hba⟩
          have hv1 := view_of_own hra
          have kb2 := KBx.out.below hba
          have r2 := Rx.out.below hba
          have hv2 := kb2.k.view (by have := (len_set hl i m').out; unfold maxLen; omega)
          rw [(len_set hl i m').out] at hv2
          have KB2 := Lib.hid kb2
          have R2 := Lib.hid r2
          have HV := Lib.hid (And.intro hv1 hv2)
          clear hra hba hv1 hv2 kb2 r2
          go_wp2_with fail
          refine (ints_any _ _ (xs.set i m') (xs.set i m') _ HV.out.1 HV.out.2).mono ?_
          rintro e wb ⟨rfl, nq, rfl⟩
          rw [beq_self_eq_true]
          go_wp2_with fail
          go_roundw
          case rel => exact ⟨j + 1, _, _, _, A, N, (xs.set i m'), rfl, rfl, rfl, by omega, by go_num, HN.out.2, by have := HN.out.1; have := HJ.out; omega, KB2.out.below (below_drewN (Below.refl _ _) _), (len_set hl i m'), R2.out.below (below_drewN (Below.refl _ _) _), hbd⟩
          case measure => simp [intOf]; omega
        case neg =>
          have hout : b < 0 ∨ (n : Int) ≤ b := by omega
          have HO := Lib.hid hout
          clear hin hout
          go_upto_region 30 with fail
          go_region_held3 (fun w' => Keep g W w' ∧ w'.cell? ⟨q1, k * 2, none⟩ = some (.int .i64 a) ∧ w'.cell? ⟨q1, k * 2 + 1, none⟩ = some (.int .i64 nk) ∧ w'.cell? ⟨q2, k, none⟩ = some (.int .i64 a))
            (first | with_reducible assumption | exact keepK HGG.out.1 HGG.out.2.1 (by with_reducible assumption) (by with_reducible assumption) | exact keepK HGG.out.1 HGG.out.2.1 ⟨Keep.refl _ _, t0, t1, ac⟩ (Keep.of_below (b_drew W)))
            (first | (go_at_call 21; refine (tleave_out S g xs a b nk m' w _ (hJW.below' (by go_grown)) HB HM2 (by omega) (by omega) (by rw [hl.out]; exact HO.out)).mono ?_; rintro e w1 ⟨rfl, hj1, hk1⟩)
                   | (go_at_call 17; refine (in_no _ n _ b _ HO.out (by omega)).mono ?_; rintro e w1 ⟨rfl, rfl⟩))
          rename_i wq hHq
          have kb2 := KBW.out.call hj1 hHq.1
          have r2 := RW.out.keep hHq.1 KBW.out.lt.2.1
          have ac2 := hHq.1.cell ac HGG.out.2.1
          have KB2 := Lib.hid kb2
          have R2 := Lib.hid r2
          clear hHq hj1 hk1 kb2 r2 t0 t1 ac nc c0 c1 c2 hJW
          go_wp2_with fail
          refine (in_no _ n _ b _ HO.out (by omega)).mono ?_
          rintro e wz ⟨rfl, rfl⟩
          go_wp2_with fail
          refine (all_any S g xs _ KB2.out.k.1.1 (by have := hl.out; omega)).mono ?_
          rintro e wa ⟨v, rfl, hra, hba⟩
          have hv1 := view_of_own hra
          have kb2 := KB2.out.below hba
          have r2 := R2.out.below hba
          have hv2 := kb2.k.view (by have := hl.out; unfold maxLen; omega)
          rw [hl.out] at hv2
          have KB2 := Lib.hid kb2
          have R2 := Lib.hid r2
          have HV := Lib.hid (And.intro hv1 hv2)
          clear hra hba hv1 hv2 kb2 r2
          go_wp2_with fail
          refine (ints_any _ _ xs xs _ HV.out.1 HV.out.2).mono ?_
          rintro e wb ⟨rfl, nq, rfl⟩
          rw [beq_self_eq_true]
          go_wp2_with fail
          go_roundw
          case rel => exact ⟨j + 1, _, _, _, A, N, xs, rfl, rfl, rfl, by omega, by go_num, HN.out.2, by have := HN.out.1; have := HJ.out; omega, KB2.out.below (below_drewN (Below.refl _ _) _), hl, R2.out.below (below_drewN (Below.refl _ _) _), hbd⟩
          case measure => simp [intOf]; omega
      have g6 : (kd == 3) = false := by simp [hkd3]
      go_wp2_with fail
      refine (all_any S g xs _ KBW.out.k.1.1 (by have := hl.out; omega)).mono ?_
      rintro e wa ⟨v, rfl, hra, hba⟩
      have hv1 := view_of_own hra
      have kb2 := KBW.out.below hba
      have r2 := RW.out.below hba
      have hv2 := kb2.k.view (by have := hl.out; unfold maxLen; omega)
      rw [hl.out] at hv2
      have KB2 := Lib.hid kb2
      have R2 := Lib.hid r2
      have HV := Lib.hid (And.intro hv1 hv2)
      clear hra hba hv1 hv2 kb2 r2
      go_wp2_with fail
      refine (ints_any _ _ xs xs _ HV.out.1 HV.out.2).mono ?_
      rintro e wb ⟨rfl, nq, rfl⟩
      rw [beq_self_eq_true]
      go_wp2_with fail
      go_roundw
      case rel => exact ⟨j + 1, _, _, _, A, N, xs, rfl, rfl, rfl, by omega, by go_num, HN.out.2, by have := HN.out.1; have := HJ.out; omega, KB2.out.below (below_drewN (Below.refl _ _) _), hl, R2.out.below (below_drewN (Below.refl _ _) _), hbd⟩
      case measure => simp [intOf]; omega
    · obtain rfl : j = len := by omega
      have hb := hkb.k.1.2.1
      clear hkb hr3
      go_wp2_with fail
      go_ret
      exact ⟨rfl, hb⟩
theorem walk (a0 : Int) (a1 : Option Addr) (len1 cap1 : Nat) (z1 : Nat → Nat → Int) (w : World) (w0 : (Lit.int .u8 a0).wf = true) (w1 : IsGrid [.i64, .i64, .i64] w a1 len1 cap1 z1) :
    Calls Try.prog 3 #[.int .u8 a0, .slice a1 len1 cap1] w fun e w' => e = .returned (.bool true) ∧ Below w.heap.size w w' := by
  have b0 := bounds_u8 w0
  obtain ⟨n, rfl⟩ := Int.eq_ofNat_of_zero_le b0.1
  by_cases hbig : 200 < len1
  · exact big a1 len1 cap1 n w hbig
  · refine core a1 len1 cap1 n z1 w (by omega) (by omega) (Lib.hid fun i hi => ?_)
    rcases w1.split (by decide) with h | ⟨b, off, rfl, hb, hle, hm, hc⟩
    · omega
    · exact ⟨b, off, rfl, hb, (hc i (by omega) 0 _ rfl).1, (hc i (by omega) 1 _ rfl).1, (hc i (by omega) 2 _ rfl).1⟩
end Go.Proofs.Ytfigabjcmpakeab.ticketDoes
