/- It is never the turn of two, and turns come in the order in which they asked: the law TicketOrder answers true. No condition. -/
import Derived.Test.YtfigabjcmpakeabTkO
import Derived.Deep.Cut
import Derived.Outline
namespace Go.Proofs.Ytfigabjcmpakeab.ticketOrder
open Go.ChangeShapes Go.WideShapes Go.ChangeAt Go.RowKit
set_option linter.unusedVariables false
set_option linter.unusedSimpArgs false
theorem big (ad : Option Addr) (len cap : Nat) (w : World) (h : 400 < len) :
    Calls Try.prog 4 #[.slice ad len cap] w fun e w' => e = .returned (.bool true) ∧ Below w.heap.size w w' := by
  go_enter Try.func4, Try.ntmps4
  go_wp2_with (first | (go_at_call 15; refine (works12 _).mono ?_; rintro e w1 ⟨rfl, hb1⟩))
  go_ret
  exact ⟨rfl, hb1⟩
set_option maxRecDepth 20000 in
set_option maxHeartbeats 4000000 in
theorem core (ad : Option Addr) (len cap : Nat) (zs : List Int) (w : World) (hlen : len ≤ 400)
    (HC : Hid (∀ i, i < len → ∃ b1 o1, ad = some ⟨b1, o1, none⟩ ∧ b1 < w.heap.size ∧ w.cell? ⟨b1, o1 + i, none⟩ = some (.int .u8 (zs.getD i 0)) ∧ 0 ≤ zs.getD i 0 ∧ zs.getD i 0 ≤ 255)) :
    Calls Try.prog 4 #[.slice ad len cap] w fun e w' => e = .returned (.bool true) ∧ Below w.heap.size w w' := by
  have hmk : ∀ w : World, (Instr.makeSlice 27 (.int .i64 8) (.int .i64 8)).run Try.prog w = .ok (.slice (some ⟨w.heap.size, 0, none⟩) 8 8) (w.alloc (.cells (madeCells #[.int .i64 0, .int .i64 0] 16) 33)) := fun w => run_make_cells Try.prog 27 33 (.agg #[.int .i64 0, .int .i64 0]) 2 16 Try.underlying27 (by kernel_rfl) .i64 .i64 8 (by omega) (by omega) w
  have hmk2 : ∀ w : World, (Instr.makeSlice 26 (.int .i64 8) (.int .i64 8)).run Try.prog w = .ok (.slice (some ⟨w.heap.size, 0, none⟩) 8 8) (w.alloc (.cells (madeCells #[.int .i64 0] 8) 3)) := fun w => run_make_cells Try.prog 26 3 (.int .i64 0) 1 8 Try.underlying26 (by kernel_rfl) .i64 .i64 8 (by omega) (by omega) w
  go_enter Try.func4, Try.ntmps4
  go_wp2_with (first | (go_at_call 15; refine (works12 _).mono ?_; rintro e w1 ⟨rfl, hb1⟩))
  refine (new_j 2 w _ hb1 (by decide)).mono ?_
  rintro e w2 ⟨S, g, rfl, hj0⟩
  clear hb1
  go_wp2_with fail
  have hTS : TS w ((w2.alloc (.cells (madeCells #[.int .i64 0, .int .i64 0] 16) 33)).alloc (.cells (madeCells #[.int .i64 0] 8) 3)) S g w2.heap.size (w2.heap.size + 1) (w2.heap.size + 2) (.slice none 0 0) (.slice none 0 0) 0 0 [] [] (fun _ => 0) (fun _ => 0) := by
    obtain ⟨_, _, _, _, f5, f6⟩ := hj0.1.facts
    have s0 := hj0.2.1.size
    have e := World.rowIs_made (w2.alloc (.cells (madeCells #[.int .i64 0, .int .i64 0] 16) 33)) (.int .i64 0) 8 3
    rw [show (w2.alloc (.cells (madeCells #[Value.int .i64 0, .int .i64 0] 16) 33)).heap.size = w2.heap.size + 1 from by simp] at e
    refine ⟨(hj0.below' ((Below.refl _ _).alloc (Nat.le_refl _) _)).below' ((Below.refl _ _).alloc (Nat.le_refl _) _), ⟨(((made2 w2 (.int .i64 0) 16 33).alloc _).congr (fun i hi => ?_)), by omega, by omega, s0⟩, ⟨e.congr (fun i hi => ?_), by omega, by omega, by omega⟩, World.ownsRow_nil _ _ _ _, World.ownsRow_nil _ _ _ _, (by intro k hk; simp [Value.ownBlock] at hk), by omega, by omega, by omega, by omega, by omega, by omega, by simp⟩
    · unfold tc; split <;> rfl
    · rfl
  have hI : TInv ([] : List Int) 0 (-1) 0 (fun _ => 0) (fun _ => 0) := ⟨Nat.le_refl _, fun _ _ => by omega, fun _ _ h => by omega, .inl ⟨rfl, rfl, fun _ _ => by omega⟩⟩
  generalize w2.heap.size = T at *
  clear hj0
  generalize (w2.alloc (.cells (madeCells #[.int .i64 0, .int .i64 0] 16) 33)).alloc (.cells (madeCells #[.int .i64 0] 8) 3) = W0 at *
  generalize T + 1 = U at *
  generalize T + 2 = B at *
  clear hmk hmk2
  go_loopw [6, 7, 8, 9, 10] (fun va vh ins i x wr => ∃ (k : Nat) (va' vh' : Value) (n : Int) (h ns : Nat) (A : List Int) (q st : Nat → Nat), va' = va ∧ vh' = vh ∧ ins = .int .i64 n ∧ k ≤ len ∧ i = .int .i64 k ∧ A.length ≤ k ∧ TS w wr S g T U B va' vh' A.length ns A (A.take h) q st ∧ TInv A ns n h q st) (fun _ _ _ i _ _ => len - (intOf i).toNat)
  case atStart => exact ⟨0, _, _, -1, 0, 0, [], _, _, rfl, rfl, rfl, Nat.zero_le _, rfl, Nat.le_refl _, hTS, hI⟩
  case round =>
    clear hTS hI
    obtain ⟨k, va, vh, n, h, ns, A, q, st, rfl, rfl, rfl, hk, rfl, hAl, hs, hI⟩ := hrel
    have HI := Lib.hid hI
    have AL := Lib.hid hAl
    by_cases hlt : k < len
    · obtain ⟨b1, o1, rfl, hb1, hc1, hz0, hz1⟩ := HC.out k hlt
      have hz : wr.cell? ⟨b1, o1 + k, none⟩ = some (.int .u8 (zs.getD k 0)) := (hs.j.2.1.cell (p := ⟨b1, o1 + k, none⟩) hb1).trans hc1
      clear hc1
      generalize zs.getD k 0 = z at *
      obtain ⟨p, hp⟩ : ∃ p : Nat, z % 8 = p := ⟨(z % 8).toNat, by omega⟩
      have hp8 : p < 8 := by omega
      have em : z.tmod 8 = p := by rw [Int.tmod_eq_emod_of_nonneg hz0, hp]
      have u0 : wr.cell? ⟨U, p, none⟩ = some (.int .i64 (st p)) := hs.u.1.cell hp8
      have uf : wr.frozen? ⟨U, p, none⟩ = false := hs.u.1.frozen p
      have hst := hI.st2 p hp8
      clear hI hAl hp
      have HS := Lib.hid hs
      clear hs
      rcases (show st p = 0 ∨ st p = 1 ∨ st p = 2 by omega) with h0 | h1 | h2
      · rw [h0] at u0
        have H0 := Lib.hid h0
        clear h0 hst
        go_wp2_with fail
        refine (task_j S g [((A.length : Nat) : Int), (ns : Int)] 0 A.length w _ HS.out.j (Lib.hid rfl) (by simp) (by simp)).mono ?_
        rintro e w3 ⟨rfl, hj3, hk3⟩
        have hs3 : TS w w3 S g T U B va vh (A.length + 1) ns A (A.take h) q st := HS.out.call (by have e : wrap64 ((A.length : Int) + 1) = ((A.length + 1 : Nat) : Int) := by (have := AL.out; unfold wrap64; omega)
                                                                                                  rw [e] at hj3; exact hj3) hk3
        have x0 := hs3.t.1.cell (i := p * 2) (by omega)
        have x1 := hs3.t.1.cell (i := p * 2 + 1) (by omega)
        have y0 := hs3.t.1.frozen (p * 2)
        have y1 := hs3.t.1.frozen (p * 2 + 1)
        have hs4 := hs3.setT p A.length hp8
        have u4 := hs4.u.1.cell (i := p) hp8
        have v4 := hs4.u.1.frozen p
        have hs5 := hs4.setU p 1 hp8
        have S5 := Lib.hid hs5
        clear hj3 hk3 hs3 hs4 hs5 u0 uf
        go_upto_region 18 with fail
        clear x0 x1 y0 y1 u4 v4
        generalize ((w3.setCell ⟨T, p * 2, none⟩ (.int .i64 0)).setCell ⟨T, p * 2 + 1, none⟩ (.int .i64 A.length)).setCell ⟨U, p, none⟩ (.int .i64 ((1 : Nat) : Int)) = W5 at *
        go_wp2_with (at_builtin; refine wpList_app1 rfl _ _ rfl B va A rfl ⟨W5.heap.size, 0, none⟩ 1 rfl (p : Int) ?o1 ?o2 rfl ?o3 ?o4 ?_)
        case o1 => exact (S5.out.alloc _).a
        case o2 => go_simp
        case o3 => have := AL.out; omega
        case o4 => exact (S5.out.alloc (.cells #[.int .i64 p] 3)).lt.2.2.2.2.2.2
        intro va2 w6 hr6 hg6 ho6
        have hs6 := (S5.out.alloc (.cells #[.int .i64 p] 3)).appA (x := (p : Int)) (by simpa using hr6) hg6 (by simpa using ho6)
        have hI6 := HI.out.ask p hp8 H0.out
        have hle : h ≤ A.length := by
          rcases HI.out.insd with ⟨_, e, _⟩ | ⟨v, hv, _, s2, e1, e2, _⟩
          · have := HI.out.le; omega
          · have := (HI.out.wait v hv (by omega)).2.1; omega
        have ht : (A ++ [(p : Int)]).take h = A.take h := by rw [List.take_append_of_le_length hle]
        have hl6 : (A ++ [(p : Int)]).length = A.length + 1 := by simp
        rw [← hl6, ← ht] at hs6
        have S6 := Lib.hid hs6
        clear hr6 hg6 ho6 hs6 ht
        have L6 := Lib.hid hl6
        clear hl6
        go_wp2_with fail
        go_roundw
        case rel => exact ⟨k + 1, _, _, n, h, ns, A ++ [(p : Int)], upd q p A.length, upd st p 1, rfl, rfl, rfl, by omega, by go_num, by have h1 := AL.out; have h2 := L6.out; omega, S6.out, hI6⟩
        case measure => simp [intOf]; omega
      · rw [h1] at u0
        have H1 := Lib.hid h1
        clear h1 hst
        have t0 : wr.cell? ⟨T, p * 2, none⟩ = some (.int .i64 0) := (HS.out.t.1.cell (i := p * 2) (by omega)).trans (by unfold tc; rw [if_neg (by omega)])
        have t1 : wr.cell? ⟨T, p * 2 + 1, none⟩ = some (.int .i64 (q p)) := (HS.out.t.1.cell (i := p * 2 + 1) (by omega)).trans (by unfold tc; rw [if_pos (by omega), show (p * 2 + 1) / 2 = p by omega])
        by_cases hq : q p = ns
        · have hq' : ((ns : Int) == (q p : Int)) = true := by rw [hq]; simp
          obtain ⟨hn1, hh⟩ := HI.out.free p hp8 H1.out hq
          obtain ⟨hI2, hA2⟩ := HI.out.mine p hp8 H1.out hq
          subst hn1
          have I2 := Lib.hid (And.intro hI2 hA2)
          have HQ := Lib.hid (And.intro hq (And.intro hq' hh))
          clear hq hq' hh hI2 hA2
          go_wp2_with fail
          refine (tmine_j S g 1 [((A.length : Nat) : Int), (ns : Int)] 0 (q p) ns true w _ HS.out.j (Lib.hid rfl) (Lib.hid rfl) (Lib.hid HQ.out.2.1) (by simp) (by simp)).mono ?_
          rintro e w3 ⟨rfl, hj3, hk3⟩
          have hs3 : TS w w3 S g T U B va vh A.length ns A (A.take h) q st := HS.out.call hj3 hk3
          have u4 := hs3.u.1.cell (i := p) hp8
          have v4 := hs3.u.1.frozen p
          have hs5 := hs3.setU p 2 hp8
          have S5 := Lib.hid hs5
          clear hj3 hk3 hs3 hs5 u0 uf t0 t1
          go_upto_region 25 with fail
          clear u4 v4
          generalize w3.setCell ⟨U, p, none⟩ (.int .i64 ((2 : Nat) : Int)) = W5 at *
          go_wp2_with (at_builtin; refine wpList_app1 rfl _ _ rfl B vh (A.take h) rfl ⟨W5.heap.size, 0, none⟩ 1 rfl (p : Int) ?o1 ?o2 rfl ?o3 ?o4 ?_)
          case o1 => exact (S5.out.alloc _).hd
          case o2 => go_simp
          case o3 => have := AL.out; simp; omega
          case o4 => exact (S5.out.alloc (.cells #[.int .i64 p] 3)).lt.2.2.2.2.2.2
          intro vh2 w6 hr6 hg6 ho6
          have hs6 := (S5.out.alloc (.cells #[.int .i64 p] 3)).appH (x := (p : Int)) (by simpa using hr6) hg6 (by simpa using ho6)
          rw [take_more A h p I2.out.2] at hs6
          have S6 := Lib.hid hs6
          clear hr6 hg6 ho6 hs6
          go_wp2_with fail
          go_roundw
          case rel => exact ⟨k + 1, _, _, (p : Int), h + 1, ns, A, q, upd st p 2, rfl, rfl, rfl, by omega, by go_num, by have := AL.out; omega, S6.out, I2.out.1⟩
          case measure => simp [intOf]; omega
        · have hq' : ((ns : Int) == (q p : Int)) = false := by simp; omega
          have HQ := Lib.hid hq'
          clear hq hq'
          go_wp2_with fail
          refine (tmine_j S g 1 [((A.length : Nat) : Int), (ns : Int)] 0 (q p) ns false w _ HS.out.j (Lib.hid rfl) (Lib.hid rfl) (Lib.hid HQ.out) (by simp) (by simp)).mono ?_
          rintro e w3 ⟨rfl, hj3, hk3⟩
          have hs3 : TS w w3 S g T U B va vh A.length ns A (A.take h) q st := HS.out.call hj3 hk3
          go_wp2_with fail
          go_roundw
          case rel => exact ⟨k + 1, _, _, n, h, ns, A, q, st, rfl, rfl, rfl, by omega, by go_num, by have := AL.out; omega, hs3, HI.out⟩
          case measure => simp [intOf]; omega
      · rw [h2] at u0
        have H2 := Lib.hid h2
        clear h2 hst
        have t0 : wr.cell? ⟨T, p * 2, none⟩ = some (.int .i64 0) := (HS.out.t.1.cell (i := p * 2) (by omega)).trans (by unfold tc; rw [if_neg (by omega)])
        have t1 : wr.cell? ⟨T, p * 2 + 1, none⟩ = some (.int .i64 (q p)) := (HS.out.t.1.cell (i := p * 2 + 1) (by omega)).trans (by unfold tc; rw [if_pos (by omega), show (p * 2 + 1) / 2 = p by omega])
        obtain ⟨hq, hI2⟩ := HI.out.leave p hp8 H2.out
        rw [hq] at t1
        have I2 := Lib.hid hI2
        have HQ := Lib.hid hq
        clear hI2 hq
        go_wp2_with fail
        refine (tleave_j S g 1 [((A.length : Nat) : Int), (ns : Int)] 0 ns (ns + 1 : Nat) w _ HS.out.j (Lib.hid rfl) (Lib.hid (by have h1 := HI.out.le; have h2 := AL.out; unfold wrap64; omega)) (by simp) (by simp)).mono ?_
        rintro e w3 ⟨rfl, hj3, hk3⟩
        have hs3 : TS w w3 S g T U B va vh A.length (ns + 1) A (A.take h) q st := HS.out.call hj3 hk3
        have u4 := hs3.u.1.cell (i := p) hp8
        have v4 := hs3.u.1.frozen p
        have hs5 := hs3.setU p 0 hp8
        have S5 := Lib.hid hs5
        clear hj3 hk3 hs3 hs5 u0 uf t0 t1
        go_wp2_with fail
        go_roundw
        case rel => exact ⟨k + 1, _, _, -1, h, ns + 1, A, q, upd st p 0, rfl, rfl, rfl, by omega, by go_num, by have := AL.out; omega, S5.out, I2.out⟩
        case measure => simp [intOf]; omega
    · obtain rfl : k = len := by omega
      have hle : h ≤ A.length := by
        rcases hI.insd with ⟨_, e, _⟩ | ⟨v, hv, _, s2, e1, e2, _⟩
        · have := hI.le; omega
        · have := (hI.wait v hv (by omega)).2.1; omega
      have hlh : (A.take h).length = h := by rw [List.length_take]; omega
      have va1 := view_of_own hs.a
      have vh1 := view_of_own hs.hd
      have hb := hs.j.2.1
      obtain ⟨aa, ca, rfl, hma, hna, _⟩ := id va1
      obtain ⟨ah, ch, rfl, hmh, hnh, _⟩ := id vh1
      have vt1 := va1.take h hle
      rw [hlh] at vh1
      have VT := Lib.hid vt1
      have VH := Lib.hid vh1
      have HB := Lib.hid hb
      have hca : (h : Int) ≤ (ca : Int) := by omega
      have hh0 : (0 : Int) ≤ (h : Int) := by omega
      have hcm : (ca : Int) ≤ 9223372036854775807 := by have := hma.2; unfold maxLen at this; omega
      have hgt : ¬ (A.length : Int) < (h : Int) := by omega
      rw [hlh]
      have E : Hid (((A.take h) == (A.take h)) = true) := Lib.hid (by simp)
      have HN := Lib.hid hna
      clear hI HI hs va1 vh1 vt1 hb hlh hma hna hmh hnh hAl
      cases aa with
      | none =>
        obtain ⟨hA0, hc0⟩ := HN.out rfl
        have h00 : h = 0 := by omega
        subst h00
        subst hc0
        rw [hA0]
        go_wp2_with fail
        refine (ints_any _ _ _ _ _ VH.out VT.out).mono ?_
        rintro e w9 ⟨rfl, nq, rfl⟩
        go_wp2_with fail
        go_ret
        exact ⟨by first | rfl | exact ret_bool E.out, HB.out.trans (below_drewN (Below.refl _ _) _)⟩
      | some x =>
        go_wp2_with fail
        refine (ints_any _ _ _ _ _ VH.out VT.out).mono ?_
        rintro e w9 ⟨rfl, nq, rfl⟩
        go_wp2_with fail
        go_ret
        exact ⟨by first | rfl | exact ret_bool E.out, HB.out.trans (below_drewN (Below.refl _ _) _)⟩
theorem walk (a0 : Option Addr) (len0 cap0 : Nat) (z0 : List Int) (w : World) (w0 : IsRow .u8 w a0 len0 cap0 z0) :
    Calls Try.prog 4 #[.slice a0 len0 cap0] w fun e w' => e = .returned (.bool true) ∧ Below w.heap.size w w' := by
  by_cases hbig : 400 < len0
  · exact big a0 len0 cap0 w hbig
  · refine core a0 len0 cap0 z0 w (by omega) (Lib.hid fun i hi => ?_)
    rcases w0 with ⟨rfl, rfl, rfl, rfl⟩ | ⟨x, rfl, hle, hm, hz, hc, hwf⟩
    · omega
    · obtain ⟨b, off, rfl, hc'⟩ := ints_at hc (by omega)
      have h1 := hc' i (by omega)
      have h2 : (Lit.int .u8 (z0.getD i 0)).wf = true := by
        have hlt : i < z0.length := by omega
        simp only [List.getD_eq_getElem?_getD, List.getElem?_eq_getElem hlt, Option.getD_some]
        exact hwf _ (List.getElem_mem hlt)
      have h3 := bounds_u8 h2
      exact ⟨b, off, rfl, World.block_lt_of_cell? w _ h1, h1, h3.1, h3.2⟩
end Go.Proofs.Ytfigabjcmpakeab.ticketOrder
