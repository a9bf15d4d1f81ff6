/- One behind the other, a plain deque: the law ModelWalks answers true. No condition. -/
import Derived.Test.YtajmmglfdinahaaD3L
import Derived.Test.YtajmmglfdinahaaGrids
import Derived.Deep.RegionHeld3
import Derived.Deep.DrawnRows
namespace Go.Proofs.Ytajmmglfdinahaa.modelWalks
open Go.ChangeShapes Go.WideShapes Go.ChangeAt Go.RowKit Go.Proofs.Ytajmmglfdinahaa.mo
attribute [local go_sem ↓] Go.wp_at_zero Go.wp_at_succ
set_option linter.unusedVariables false
set_option linter.unusedSimpArgs false
set_option maxRecDepth 20000 in
set_option maxHeartbeats 4000000 in
theorem core (x D n len cap : Nat) (a1 : Option Addr) (z : Nat → Nat → Int) (w : World) (hx : x ≤ 255) (hD : x % 9 + 2 = D) (hn : 3 * (4 + D) + 10 = n) (hlen : len ≤ 200)
    (hz : ∀ k, k < len → ∃ b off, a1 = some ⟨b, off, none⟩ ∧ b < w.heap.size ∧ w.cell? ⟨b, off + k * 2, none⟩ = some (.int .i64 (z k 0)) ∧ w.cell? ⟨b, off + k * 2 + 1, none⟩ = some (.int .i64 (z k 1))) :
    Calls Try.prog 6 #[.int .u8 (x : Int), .slice a1 len cap] w fun e w' => e = .returned (.bool true) ∧ Below w.heap.size w w' := by
  have hD2 : 2 ≤ D := by omega
  have hD8 : D ≤ 10 := by omega
  obtain ⟨P, hP⟩ : ∃ P, 1 * (4 + D) = P := ⟨_, rfl⟩
  have hO := Lib.hid (wok D 1 P n (by omega) (by omega) (by omega) hP hn)
  have hDn := Lib.hid (And.intro hn hP)
  have hnl : n ≤ 60 := by omega
  have hd1 : IntKind.i64.wrap (x : Int) = (x : Int) := by rw [IntKind.wrap_i64]; omega
  have hd2 : (x : Int).tmod 9 = (D : Int) - 2 := by rw [Int.tmod_eq_emod_of_nonneg (by omega)]; omega
  have hd3 : (D : Int) - 2 + 2 = (D : Int) := by omega
  have hd4 : IntKind.i64.wrap ((D : Int) - 1) = (D : Int) - 1 := by rw [IntKind.wrap_i64]; omega
  have hd7 : IntKind.i64.wrap (D : Int) = (D : Int) := by rw [IntKind.wrap_i64]; omega
  have hd5 : decide (200 < len) = false := by simp; omega
  have hd6 : ¬ (200 : Int) < (len : Int) := by omega
  have HZ := Lib.hid hz
  clear hn hx hD hz hP
  go_enter Try.func6, Try.ntmps6
  go_wp2_with fail
  refine (works14 w).mono ?_
  rintro e wk ⟨rfl, hbk⟩
  go_wp2_with fail
  obtain ⟨W, hW⟩ : ∃ W, W = wk.alloc (Obj.cells #[Value.int .i64 3, .int .i64 1, .int .i64 1, .int .i64 (D : Int)] 54) := ⟨_, rfl⟩
  have hp : W.heap[wk.heap.size]? = some (.cells #[Value.int .i64 3, .int .i64 1, .int .i64 1, .int .i64 (D : Int)] 54 (0, 0)) := by rw [hW]; exact heap_alloc_new _ _
  have hb : Below w.heap.size w W := by rw [hW]; exact btr hbk (by go_grown)
  rw [← hW]
  clear hW hbk
  generalize wk.heap.size = Pl at *
  refine (size13 D n _ (by omega) (by omega) hDn.out.1).mono ?_
  rintro e w2 ⟨rfl, hb2⟩
  have hp2 := (hb2.block Pl (lt_of_heap hp)).trans hp
  have hbw2 := btr hb hb2
  clear hb hb2 hp
  go_wp2_with fail
  refine (new_n n _ (by omega)).mono ?_
  rintro e w3 ⟨rfl, hs, hb3⟩
  have hg : Pl < w2.heap.size := lt_of_heap hp2
  have hw0 : w.heap.size ≤ w2.heap.size := hbw2.size
  have HL : Hid (LS w w3 (w2.heap.size + 1) w2.heap.size Pl D (List.replicate n 0)) := Lib.hid ⟨⟨hs, btr hbw2 hb3, hbw2.size⟩, (hb3.block Pl hg).trans hp2, by omega⟩
  have HQ := Lib.hid (dq0 P D n (by have := hDn.out; omega))
  have hS3 : w2.heap.size + 1 < w3.heap.size := lt_of_heap HL.out.j.1.1
  have hg3 : w2.heap.size < w3.heap.size := by omega
  have hP3 : Pl < w3.heap.size := by omega
  clear hs hb3 hp2 hbw2 hg
  generalize w2.heap.size + 1 = S at *
  generalize w2.heap.size = g at *
  obtain ⟨c0, c1, c2, c3⟩ := HL.out.cells
  go_wp2_with fail
  refine (new_of ((D : Int) - 1) w3.heap.size w3 (Nat.le_refl _)).mono ?_
  rintro e w4 ⟨rfl, hm, hb4⟩
  rw [show min (max ((D : Int) - 1) 0) 1000 = (D : Int) - 1 by omega] at hm
  have HL4 := Lib.hid (HL.out.below hb4)
  obtain ⟨M, hM⟩ : ∃ M, w3.heap.size = M := ⟨_, rfl⟩
  have hw0M : w.heap.size ≤ M := by omega
  rw [hM] at hm hS3 hg3 hP3 ⊢
  have HM := Lib.hid hm
  clear HL hb4 hm hM c0 c1 c2 c3 hw0
  go_wp2_with fail
  go_loopw [8, 9] (fun t i wr => ∃ (k H T : Nat) (st : List Int) (v : Value) (c : Int) (f : Nat → Int) (xs : List Int), k ≤ len ∧ T ≤ k ∧ H + st.length = T ∧ st.length ≤ D - 1 ∧ xs.length = n ∧ t = .int .i64 (T : Int) ∧ i = .int .i64 (k : Int) ∧ Hid (LS w wr S g Pl D xs) ∧ Hid (Dq P D xs (H : Int) (T : Int) c c f) ∧ Hid (Hold D f H st) ∧ Hid (MS M M wr ((D : Int) - 1) v st)) (fun _ i _ => len - (intOf i).toNat)
  case atStart => exact ⟨0, 0, 0, [], _, 0, _, _, by omega, by omega, rfl, by simp, by simp, rfl, rfl, HL4, HQ, Lib.hid (fun i hi => by simp at hi), HM⟩
  case round =>
    clear HL4 HQ HM
    obtain ⟨k, H, T, st, v, c, f, xs, hk, hTk, hHT, hst, hl, rfl, rfl, HL, HQ, HH, HM⟩ := hrel
    by_cases hlt : k < len
    · obtain ⟨b, off, rfl, hbl, k0, k1⟩ := HZ.out k hlt
      have hbw := HL.out.j.2.1
      have hbl2 : b < wr.heap.size := Nat.lt_of_lt_of_le hbl hbw.size
      replace k0 := (hbw.cell (p := ⟨b, off + k * 2, none⟩) hbl).trans k0
      have HK1 := Lib.hid k1
      replace k1 := (hbw.cell (p := ⟨b, off + k * 2 + 1, none⟩) hbl).trans k1
      clear hbw
      generalize z k 0 = y at *
      generalize z k 1 = u at *
      obtain ⟨c0, c1, c2, c3⟩ := HL.out.cells
      have hlv : ∀ q, v.ownBlock = some q → M ≤ q ∧ q < wr.heap.size := fun q e => HM.out.row.lt q e
      have HLV := Lib.hid hlv
      have hMl : M < wr.heap.size := HM.out.lt
      clear hlv
      by_cases hy2 : y = 2
      · subst hy2
        clear k1 HK1
        go_wp2_with fail
        refine (pop_new S g D 1 (T : Int) _ w _ HL.out.j (by omega) (by omega)).mono ?_
        rintro e w4 ⟨A, rfl, hA, hb4, hS4⟩
        have HP : Hid (Pl ≠ A) := Lib.hid (by have := HL.out.lt; omega)
        have HL4 := Lib.hid (HL.out.below hb4)
        have HS4 := Lib.hid hS4
        have HB4 := Lib.hid hb4
        clear hb4 hS4 HL c0 c1 c2 c3 k0
        go_wp2_with fail
        rcases last_of st with rfl | ⟨ys, q, rfl⟩
        · have hHT0 : H = T := by simpa using hHT
          subst hHT0
          obtain ⟨xs5, o5, hR, htl, hhs, hnx, q5, hl5⟩ := pop_none (S := S) (g := g) (A := A) (kk := 1) H (by rw [hl]; exact hO.out) HQ.out (by omega) (by omega)
          refine (run14_of S g A 9 _ _ _ _ w _ hR (by omega) HS4.out).mono ?_
          rintro e w5 ⟨rfl, hS, hF⟩
          have HL5 := Lib.hid (HL4.out.step hS hF HP.out)
          have HS5 := Lib.hid hS
          have HM5 := Lib.hid (ms_fr HM.out HB4.out hF hg3 hA)
          have HQ5 := Lib.hid q5
          have C := Lib.hid (fun w h => got_of A o5 true 0 false w h (Lib.hid (Or.inl ⟨hnx, rfl⟩)) (Lib.hid (Or.inr ⟨Or.inr hhs, rfl, rfl⟩)))
          have C2 : Hid (∀ w, WAt w A o5 → Calls Try.prog 38 #[.pointer (some ⟨A, 0, none⟩)] w fun e w' => e = .returned (.int .i64 (H : Int)) ∧ w' = w) := Lib.hid (fun w h => by have := tail_of A o5 w h; rw [htl] at this; exact this)
          clear hR hS hF HL4 HS4 HM HB4 HP q5 HQ htl hhs hnx HLV hMl
          go_wp2_with fail
          refine (C.out _ HS5.out.a).mono ?_
          rintro e w6 ⟨rfl, rfl⟩
          go_wp2_with fail
          refine (pop_no _ M _ _ _ HM5.out).mono ?_
          rintro e w7 ⟨rfl, rfl⟩
          go_wp2_with (first | (go_at_call 38; refine (C2.out _ HS5.out.a).mono ?_; rintro e wx ⟨rfl, rfl⟩))
          go_roundw
          case rel => exact ⟨k + 1, H, H, [], _, _, f, xs5, by omega, by omega, rfl, by simp, by omega, rfl, by go_num, HL5, HQ5, HH, HM5⟩
          case measure => simp [intOf]; omega
        · have hlst : (ys ++ [q]).length = ys.length + 1 := by simp
          obtain ⟨T', hT'⟩ : ∃ T', T' + 1 = T := ⟨T - 1, by omega⟩
          have hTi : (T' : Int) + 1 = (T : Int) := by omega
          have hHT2 : H + ys.length = T' := by omega
          obtain ⟨hh2, hf2⟩ := HH.out.pop
          obtain ⟨xs5, hR, q5, hl5⟩ := pop_run' (S := S) (g := g) (A := A) (kk := 1) T' (T : Int) q (by rw [hl]; exact hO.out) HQ.out (by omega) (by omega) (by rw [← hHT2]; exact hf2) hTi
          refine (run14_of S g A 3 _ _ _ _ w _ hR (by omega) HS4.out).mono ?_
          rintro e w5 ⟨rfl, hS, hF⟩
          have HL5 := Lib.hid (HL4.out.step hS hF HP.out)
          have HS5 := Lib.hid hS
          have HM5 := Lib.hid (ms_fr HM.out HB4.out hF hg3 hA)
          have HQ5 := Lib.hid q5
          have HH5 := Lib.hid hh2
          have C := Lib.hid (fun w h => got_of A ⟨D, 1, (T' : Int), 0, 0, 0, 0, q, true, false, .nilFunc⟩ true q true w h (Lib.hid (Or.inl ⟨rfl, rfl⟩)) (Lib.hid (Or.inl ⟨rfl, rfl, rfl, rfl⟩)))
          have HvA : Hid (v.ownBlock ≠ some A) := Lib.hid (fun e => by have := (HLV.out A e).2; omega)
          have HAM : Hid (A ≠ M) := Lib.hid (by omega)
          clear hR hS hF HL4 HS4 HM HB4 HP q5 HQ HH hh2 hf2 HLV
          go_wp2_with fail
          refine (C.out _ HS5.out.a).mono ?_
          rintro e w6 ⟨rfl, rfl⟩
          go_wp2_with fail
          refine (pop_yes _ M _ _ ys q _ HM5.out (by omega)).mono ?_
          rintro e w7 ⟨rfl, v7, hm7, hb7, hk7, _⟩
          have HL7 := Lib.hid (HL5.out.high hb7 hw0M hS3 hg3 hP3)
          have HA7 := Lib.hid (HS5.out.a.km hk7 HAM.out HvA.out)
          have HM7 := Lib.hid hm7
          clear hm7 hb7 hk7 HL5 HS5 HM5
          go_wp2_with (first | (go_at_call 38; refine (tail_of A _ _ HA7.out).mono ?_; rintro e wx ⟨rfl, rfl⟩))
          go_roundw
          case rel => exact ⟨k + 1, H, T', ys, _, _, f, xs5, by omega, by omega, hHT2, by omega, by omega, rfl, by go_num, HL7, HQ5, HH5, HM7⟩
          case measure => simp [intOf]; omega
      · by_cases hy3 : y = 3
        · subst hy3
          clear k1 HK1
          go_wp2_with fail
          refine (steal_new S g D 1 _ w _ HL.out.j).mono ?_
          rintro e w4 ⟨A, rfl, hA, hb4, hS4⟩
          have HP : Hid (Pl ≠ A) := Lib.hid (by have := HL.out.lt; omega)
          have HL4 := Lib.hid (HL.out.below hb4)
          have HS4 := Lib.hid hS4
          have HB4 := Lib.hid hb4
          clear hb4 hS4 HL c0 c1 c2 c3 k0
          go_wp2_with fail
          rcases hst' : st with _ | ⟨q, ys⟩
          · subst hst'
            have hHT0 : H = T := by simpa using hHT
            subst hHT0
            obtain ⟨xs5, o5, hR, hhs, hnx, q5, hl5⟩ := steal_none (S := S) (g := g) (A := A) (kk := 1) H (by rw [hl]; exact hO.out) HQ.out (by omega) (by omega)
            refine (run14_of S g A 7 _ _ _ _ w _ hR (by omega) HS4.out).mono ?_
            rintro e w5 ⟨rfl, hS, hF⟩
            have HL5 := Lib.hid (HL4.out.step hS hF HP.out)
            have HS5 := Lib.hid hS
            have HM5 := Lib.hid (ms_fr HM.out HB4.out hF hg3 hA)
            have HQ5 := Lib.hid q5
            have C := Lib.hid (fun w h => got_of A o5 true 0 false w h (Lib.hid (Or.inl ⟨hnx, rfl⟩)) (Lib.hid (Or.inr ⟨Or.inr hhs, rfl, rfl⟩)))
            clear hR hS hF HL4 HS4 HM HB4 HP q5 HQ hhs hnx HLV hMl
            go_wp2_with fail
            refine (C.out _ HS5.out.a).mono ?_
            rintro e w6 ⟨rfl, rfl⟩
            go_wp2_with fail
            refine (steal_no _ M _ _ _ HM5.out).mono ?_
            rintro e w7 ⟨rfl, rfl⟩
            go_wp2_with fail
            go_roundw
            case rel => exact ⟨k + 1, H, H, [], _, _, f, xs5, by omega, by omega, rfl, by simp, by omega, rfl, by go_num, HL5, HQ5, HH, HM5⟩
            case measure => simp [intOf]; omega
          · subst hst'
            have hlst : (q :: ys).length = ys.length + 1 := by simp
            have hHT2 : H + 1 + ys.length = T := by omega
            obtain ⟨hh2, hf2⟩ := HH.out.steal
            obtain ⟨xs5, o5, hR, hgt, hhs, hnx, q5, hl5⟩ := steal_run (S := S) (g := g) (A := A) (kk := 1) H q (by rw [hl]; exact hO.out) HQ.out (by omega) (by omega) hf2
            refine (run14_of S g A 7 _ _ _ _ w _ hR (by omega) HS4.out).mono ?_
            rintro e w5 ⟨rfl, hS, hF⟩
            have HL5 := Lib.hid (HL4.out.step hS hF HP.out)
            have HS5 := Lib.hid hS
            have HM5 := Lib.hid (ms_fr HM.out HB4.out hF hg3 hA)
            have HQ5 : Hid (Dq P D xs5 ((H + 1 : Nat) : Int) (T : Int) (wrap64 (c + 1)) (wrap64 (c + 1)) f) := Lib.hid (by push_cast; exact q5)
            have HH5 := Lib.hid hh2
            have C := Lib.hid (fun w h => got_of A o5 true q true w h (Lib.hid (Or.inl ⟨hnx, rfl⟩)) (Lib.hid (Or.inl ⟨rfl, hhs, rfl, hgt.symm⟩)))
            clear hR hS hF HL4 HS4 HM HB4 HP q5 HQ HH hh2 hf2 hgt hhs hnx HLV hMl
            go_wp2_with fail
            refine (C.out _ HS5.out.a).mono ?_
            rintro e w6 ⟨rfl, rfl⟩
            go_wp2_with fail
            refine (steal_yes _ M _ _ ys q _ HM5.out (by omega)).mono ?_
            rintro e w7 ⟨rfl, v7, hm7, hb7, hk7, _⟩
            have HL7 := Lib.hid (HL5.out.high hb7 hw0M hS3 hg3 hP3)
            have HM7 := Lib.hid hm7
            clear hm7 hb7 hk7 HL5 HS5 HM5
            go_wp2_with fail
            go_roundw
            case rel => exact ⟨k + 1, H + 1, T, ys, _, _, f, xs5, by omega, by omega, hHT2, by omega, by omega, rfl, by go_num, HL7, HQ5, HH5, HM7⟩
            case measure => simp [intOf]; omega
        · go_wp2_with fail
          have HK : Hid (∀ w', Below wr.heap.size wr w' → Below wr.heap.size wr w' ∧ w'.cell? ⟨Pl, 0, none⟩ = some (.int .i64 3) ∧ w'.cell? ⟨Pl, 1, none⟩ = some (.int .i64 1) ∧ w'.cell? ⟨Pl, 2, none⟩ = some (.int .i64 1) ∧ w'.cell? ⟨Pl, 3, none⟩ = some (.int .i64 (D : Int)) ∧ w'.cell? ⟨b, off + k * 2 + 1, none⟩ = some (.int .i64 u)) := Lib.hid fun w' hb => ⟨hb, keepc c0 hb, keepc c1 hb, keepc c2 hb, keepc c3 hb, keepc k1 hb⟩
          clear c0 c1 c2 c3 k0 k1
          go_region_held3 (fun w' => Below wr.heap.size wr w' ∧ w'.cell? ⟨Pl, 0, none⟩ = some (.int .i64 3) ∧ w'.cell? ⟨Pl, 1, none⟩ = some (.int .i64 1) ∧ w'.cell? ⟨Pl, 2, none⟩ = some (.int .i64 1) ∧ w'.cell? ⟨Pl, 3, none⟩ = some (.int .i64 (D : Int)) ∧ w'.cell? ⟨b, off + k * 2 + 1, none⟩ = some (.int .i64 u))
            (first | (with_reducible assumption) | exact HK.out _ (Below.refl _ _) | exact HK.out _ hb5 | (refine HK.out _ ?_; go_grown; done))
            (first | (go_at_call 40; refine (push_new S g D 1 (T : Int) u xs w _ (HL.out.j.below' (by go_grown)) (by omega) (by omega)).mono ?_; rintro e w4 ⟨A, rfl, hA, hb4, hS4⟩; have hb5 : Below wr.heap.size wr w4 := btr (by go_grown) hb4))
          have hA2 : wr.heap.size ≤ A := by simpa using hA
          have HP : Hid (Pl ≠ A) := Lib.hid (by have := HL.out.lt; omega)
          have HL4 := Lib.hid (HL.out.below hb5)
          have HS4 := Lib.hid hS4
          have HB4 := Lib.hid hb5
          have HvA : Hid (v.ownBlock ≠ some A) := Lib.hid (fun e => by have := (HLV.out A e).2; omega)
          have HAM : Hid (A ≠ M) := Lib.hid (by omega)
          have hz4 : w4.cell? ⟨b, off + k * 2 + 1, none⟩ = some (.int .i64 u) := (HK.out _ hb5).2.2.2.2.2
          have hbl4 : b < w4.heap.size := World.block_lt_of_cell? w4 _ hz4
          clear hA hb4 hS4 hb5 HL HK HLV
          go_wp2_with fail
          by_cases hTF : st.length < D - 1
          · obtain ⟨xs5, hR, q5, hl5⟩ := push_run (S := S) (g := g) (A := A) (kk := 1) T u (by rw [hl]; exact hO.out) HQ.out (by omega) (by omega)
            have CR : Hid (∀ W, Below w4.heap.size w4 W → Calls Try.prog 36 #[.pointer (some ⟨A, 0, none⟩), .pointer (some ⟨S, 0, none⟩)] W fun e w' => e = .returned (.bool true) ∧ LS w w' S g Pl D xs5 ∧ WAt w' A ⟨D, 1, (T : Int) + 1, u, 0, 0, 0, 0, false, false, .nilFunc⟩ ∧ MS M M w' ((D : Int) - 1) v st) := Lib.hid fun W hb => (run14_of S g A 3 _ _ _ _ w W hR (by omega) ⟨HS4.out.j.below' hb, HS4.out.a.below hb, HS4.out.ag, HS4.out.aS, HS4.out.a0⟩).mono fun e w' hh => (⟨hh.1, (HL4.out.below hb).step hh.2.1 hh.2.2 HP.out, hh.2.1.a, ms_fr HM.out (btr HB4.out hb) hh.2.2 hg3 hA2⟩ : e = .returned (.bool true) ∧ LS w w' S g Pl D xs5 ∧ WAt w' A ⟨D, 1, (T : Int) + 1, u, 0, 0, 0, 0, false, false, .nilFunc⟩ ∧ MS M M w' ((D : Int) - 1) v st)
            have CP : Hid (∀ W, MS M M W ((D : Int) - 1) v st → Calls Try.prog 29 #[.pointer (some ⟨M, 0, none⟩), .int .i64 u] W (MPost M M ((D : Int) - 1) v (st ++ [u]) (.bool true) W)) := Lib.hid fun W h => push_any M _ v st _ u true W h (by omega) (Lib.hid (Or.inl ⟨rfl, by omega, rfl⟩))
            have CF : Hid (∀ W, WAt W A ⟨D, 1, (T : Int) + 1, u, 0, 0, 0, 0, false, false, .nilFunc⟩ → Calls Try.prog 41 #[.pointer (some ⟨A, 0, none⟩)] W fun e w' => e = .returned (.bool false) ∧ w' = W) := Lib.hid fun W h => full_of A _ W h
            have HZ5 : Hid (∀ W xs, LS w W S g Pl D xs → W.cell? ⟨b, off + k * 2 + 1, none⟩ = some (.int .i64 u)) := Lib.hid fun W xs h => (h.j.2.1.cell (p := ⟨b, off + k * 2 + 1, none⟩) hbl).trans HK1.out
            have HQ5 := Lib.hid q5
            have HH5 := Lib.hid (HH.out.push u (by omega) hHT)
            clear q5
            clear hR HL4 HS4 HM HB4 HP HQ
            go_region_held3 (fun w' => w'.cell? ⟨b, off + k * 2 + 1, none⟩ = some (.int .i64 u))
              (first | (with_reducible assumption) | exact hz4 | exact HZ5.out _ _ hL6 | exact HZ5.out _ _ hL5 | (refine keepc hz4 ?_; go_grown; done))
              (first
                | (go_at_call 36; refine (CR.out _ (by go_grown)).mono ?_; rintro e w5 ⟨rfl, hL5, hA5, hM5⟩)
                | (go_at_call 41; refine (CF.out _ hA5).mono ?_; rintro e wx ⟨rfl, rfl⟩)
                | (go_at_call 29; refine (CP.out _ hM5).mono ?_; rintro e w6 ⟨rfl, v6, hM6, hb6, hk6, _⟩; have hL6 := hL5.high hb6 hw0M hS3 hg3 hP3; have hA6 := hA5.km hk6 HAM.out HvA.out)
                | (go_at_call 41; refine (CF.out _ hA6).mono ?_; rintro e wx ⟨rfl, rfl⟩))
            all_goals
              have HL6 := Lib.hid hL6
              have HA6 := Lib.hid hA6
              have HM6 := Lib.hid hM6
              clear hL6 hA6 hM6 hL5 hA5 hM5 hb6 hk6 CR CP CF HZ5
              try clear hz4
              go_wp2_with (first | (go_at_call 38; refine (tail_of A _ _ HA6.out).mono ?_; rintro e wz ⟨rfl, rfl⟩))
              go_roundw
              case rel => exact ⟨k + 1, H, T + 1, st ++ [u], v6, c, _, xs5, by omega, by omega, by simp; omega, by simp; omega, by omega, rfl, by go_num, HL6, HQ5, HH5, HM6⟩
              case measure => simp [intOf]; omega
          · have hR := push_full (S := S) (g := g) (A := A) (kk := 1) T u (by rw [hl]; exact hO.out) HQ.out (by omega) (by omega)
            have CR : Hid (∀ W, Below w4.heap.size w4 W → Calls Try.prog 36 #[.pointer (some ⟨A, 0, none⟩), .pointer (some ⟨S, 0, none⟩)] W fun e w' => e = .returned (.bool true) ∧ LS w w' S g Pl D xs ∧ WAt w' A ⟨D, 1, (T : Int), u, 0, 0, 0, 0, false, true, .nilFunc⟩ ∧ MS M M w' ((D : Int) - 1) v st) := Lib.hid fun W hb => (run14_of S g A 1 _ _ _ _ w W hR (by omega) ⟨HS4.out.j.below' hb, HS4.out.a.below hb, HS4.out.ag, HS4.out.aS, HS4.out.a0⟩).mono fun e w' hh => (⟨hh.1, (HL4.out.below hb).step hh.2.1 hh.2.2 HP.out, hh.2.1.a, ms_fr HM.out (btr HB4.out hb) hh.2.2 hg3 hA2⟩ : e = .returned (.bool true) ∧ LS w w' S g Pl D xs ∧ WAt w' A ⟨D, 1, (T : Int), u, 0, 0, 0, 0, false, true, .nilFunc⟩ ∧ MS M M w' ((D : Int) - 1) v st)
            have CP : Hid (∀ W, MS M M W ((D : Int) - 1) v st → Calls Try.prog 29 #[.pointer (some ⟨M, 0, none⟩), .int .i64 u] W (MPost M M ((D : Int) - 1) v (st) (.bool false) W)) := Lib.hid fun W h => push_any M _ v st _ u false W h (by omega) (Lib.hid (Or.inr ⟨rfl, by omega, rfl⟩))
            have CF : Hid (∀ W, WAt W A ⟨D, 1, (T : Int), u, 0, 0, 0, 0, false, true, .nilFunc⟩ → Calls Try.prog 41 #[.pointer (some ⟨A, 0, none⟩)] W fun e w' => e = .returned (.bool true) ∧ w' = W) := Lib.hid fun W h => full_of A _ W h
            have HZ5 : Hid (∀ W xs, LS w W S g Pl D xs → W.cell? ⟨b, off + k * 2 + 1, none⟩ = some (.int .i64 u)) := Lib.hid fun W xs h => (h.j.2.1.cell (p := ⟨b, off + k * 2 + 1, none⟩) hbl).trans HK1.out
            have HQ5 := HQ
            have HH5 := HH
            clear hR HL4 HS4 HM HB4 HP HQ
            go_region_held3 (fun w' => w'.cell? ⟨b, off + k * 2 + 1, none⟩ = some (.int .i64 u))
              (first | (with_reducible assumption) | exact hz4 | exact HZ5.out _ _ hL6 | exact HZ5.out _ _ hL5 | (refine keepc hz4 ?_; go_grown; done))
              (first
                | (go_at_call 36; refine (CR.out _ (by go_grown)).mono ?_; rintro e w5 ⟨rfl, hL5, hA5, hM5⟩)
                | (go_at_call 41; refine (CF.out _ hA5).mono ?_; rintro e wx ⟨rfl, rfl⟩)
                | (go_at_call 29; refine (CP.out _ hM5).mono ?_; rintro e w6 ⟨rfl, v6, hM6, hb6, hk6, _⟩; have hL6 := hL5.high hb6 hw0M hS3 hg3 hP3; have hA6 := hA5.km hk6 HAM.out HvA.out)
                | (go_at_call 41; refine (CF.out _ hA6).mono ?_; rintro e wx ⟨rfl, rfl⟩))
            all_goals
              have HL6 := Lib.hid hL6
              have HA6 := Lib.hid hA6
              have HM6 := Lib.hid hM6
              clear hL6 hA6 hM6 hL5 hA5 hM5 hb6 hk6 CR CP CF HZ5
              try clear hz4
              go_wp2_with (first | (go_at_call 38; refine (tail_of A _ _ HA6.out).mono ?_; rintro e wz ⟨rfl, rfl⟩))
              go_roundw
              case rel => exact ⟨k + 1, H, T, st, v6, c, f, xs, by omega, by omega, hHT, hst, hl, rfl, by go_num, HL6, HQ5, HH5, HM6⟩
              case measure => simp [intOf]; omega
    · obtain rfl : k = len := by omega
      go_wp2_with fail
      go_ret
      exact ⟨rfl, HL.out.j.2.1⟩
set_option maxRecDepth 20000 in
theorem walk (a0 : Int) (a1 : Option Addr) (len1 cap1 : Nat) (z1 : Nat → Nat → Int) (w : World) (w0 : (Lit.int .u8 a0).wf = true) (w1 : IsGrid [.i64, .i64] w a1 len1 cap1 z1) :
    Calls Try.prog 6 #[.int .u8 a0, .slice a1 len1 cap1] w fun e w' => e = .returned (.bool true) ∧ Below w.heap.size w w' := by
  have h0 : 0 ≤ a0 ∧ a0 ≤ 255 := bounds_u8 w0
  obtain ⟨x, rfl⟩ : ∃ x : Nat, a0 = (x : Int) := ⟨a0.toNat, by omega⟩
  by_cases hl : len1 ≤ 200
  · refine core x _ _ len1 cap1 a1 z1 w (by omega) rfl rfl hl fun k hk => ?_
    rcases w1.split (by decide) with h | ⟨b, off, rfl, hb, hle, hm, hc⟩
    · omega
    · have c0 := hc k (by omega) 0 .i64 rfl
      have c1 := hc k (by omega) 1 .i64 rfl
      exact ⟨b, off, rfl, hb, c0.1, by rw [Nat.add_assoc]; exact c1.1⟩
  · have hd5 : decide (200 < len1) = true := by simp; omega
    have hd6 : (200 : Int) < (len1 : Int) := by omega
    clear w1
    go_enter Try.func6, Try.ntmps6
    go_wp2_with fail
    refine (works14 w).mono ?_
    rintro e wk ⟨rfl, hbk⟩
    go_wp2_with fail
    go_ret
    exact ⟨rfl, hbk⟩
end Go.Proofs.Ytajmmglfdinahaa.modelWalks
