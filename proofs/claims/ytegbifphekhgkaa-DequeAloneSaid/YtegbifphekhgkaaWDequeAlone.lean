/- An owner without thieves has a stack: the law DequeAlone answers true. No condition. -/
import Derived.Test.YtegbifphekhgkaaDqT
import Derived.Test.YtegbifphekhgkaaIntR
import Derived.Test.YtegbifphekhgkaaGrids
import Derived.BigQuiet
import Derived.Deep.RegionHeld3
import Derived.Deep.DrawnRows
namespace Go.Proofs.Ytegbifphekhgkaa.dequeAlone
open Go.ChangeShapes Go.WideShapes Go.ChangeAt Go.RowKit
attribute [local go_sem ↓] Go.wp_at_zero Go.wp_at_succ
set_option linter.unusedVariables false
set_option linter.unusedSimpArgs false
theorem oi_fr {w0 w w' : World} {B g A : Nat} {v : Value} {xs : List Int} (h : OI w0 B v xs) (hb : Below w0.heap.size w0 w) (hF : Fr g A w w') (hg : g < B) (hA : w0.heap.size ≤ A) : OI w' B v xs := by
  obtain ⟨hl, h | ⟨k, cap, cur, rfl, hk, hh, h1, h2, h3, h4⟩⟩ := h
  · exact ⟨hl, .inl h⟩
  · have hl2 := (Array.getElem?_eq_some_iff.1 hh).1
    have hh2 := (hb.block k hl2).trans hh
    exact ⟨hl, .inr ⟨k, cap, cur, rfl, hk, (hF.2 k (Array.getElem?_eq_some_iff.1 hh2).1 (by omega) (by omega)).trans hh2, h1, h2, h3, h4⟩⟩
theorem cell_mid (H : Array Obj) (o : Obj) (a : Value) (t : Nat) (w : World) (h : w.heap = (H.push (.cells #[a] t (0, 0))).push o) : w.cell? ⟨H.size, 0, none⟩ = some a := by
  have hh : w.heap[H.size]? = some (.cells #[a] t (0, 0)) := by rw [h]; simp [Array.getElem?_push]
  simp [World.cell?, hh]
theorem heap_top (H : Array Obj) (o o' : Obj) (w : World) (h : w.heap = (H.push o').push o) : w.heap[H.size + 1]? = some o := by rw [h, show H.size + 1 = (H.push o').size by simp, Array.getElem?_push_size]
theorem heap_mid (H : Array Obj) (o o' : Obj) (w : World) (h : w.heap = (H.push o').push o) : w.heap[H.size]? = some o' := by rw [h]; simp [Array.getElem?_push]
/-- The slots hold the stack. -/
def Hold (f : Nat → Int) (st : List Int) : Prop := ∀ i, i < st.length → f i = st.getD i 0
theorem Hold.push {f : Nat → Int} {st : List Int} {D : Nat} (h : Hold f st) (x : Int) (hD : st.length < D) : Hold (updI f (st.length % D) x) (st ++ [x]) := by
  intro i hi
  rw [Nat.mod_eq_of_lt hD]
  unfold updI
  by_cases e : i = st.length
  · subst e; rw [if_pos rfl, List.getD_eq_getElem?_getD, List.getElem?_append_right (Nat.le_refl _)]; simp
  · have hi2 : i < st.length := by simp at hi; omega
    rw [if_neg e, h i hi2, List.getD_eq_getElem?_getD, List.getD_eq_getElem?_getD, List.getElem?_append_left hi2]
theorem Hold.take {f : Nat → Int} {st : List Int} (h : Hold f st) (m : Nat) : Hold f (st.take m) := by
  intro i hi
  rw [List.length_take] at hi
  rw [h i (by omega), List.getD_eq_getElem?_getD, List.getD_eq_getElem?_getD, List.getElem?_take_of_lt (by omega)]
set_option maxRecDepth 20000 in
set_option maxHeartbeats 4000000 in
theorem core (x D n len cap : Nat) (a1 : Option Addr) (z : Nat → Nat → Int) (w : World) (hx : x ≤ 255) (hD : x % 7 + 2 = D) (hn : 2 * (4 + D) + 10 = n) (hlen : len ≤ 300)
    (hz : ∀ k, k < len → ∃ b off, a1 = some ⟨b, off, none⟩ ∧ b < w.heap.size ∧ w.cell? ⟨b, off + k * 3 + 1, none⟩ = some (.int .u8 (z k 1)) ∧ w.cell? ⟨b, off + k * 3 + 2, none⟩ = some (.int .i64 (z k 2)) ∧ 0 ≤ z k 1 ∧ z k 1 ≤ 255) :
    Calls Try.prog 5 #[.int .u8 (x : Int), .slice a1 len cap] w fun e w' => e = .returned (.bool true) ∧ Below w.heap.size w w' := by
  have hD2 : 2 ≤ D := by omega
  have hD8 : D ≤ 8 := by omega
  have hO := Lib.hid (wok D 0 0 n (by omega) (by omega) (by omega) (by omega) hn)
  have hDn := Lib.hid hn
  have hnl : n ≤ 34 := by omega
  have hd1 : IntKind.i64.wrap (x : Int) = (x : Int) := by rw [IntKind.wrap_i64]; omega
  have hd2 : (x : Int).tmod 7 = (D : Int) - 2 := by rw [Int.tmod_eq_emod_of_nonneg (by omega)]; omega
  have hd3 : (D : Int) - 2 + 2 = (D : Int) := by omega
  have hd4 : IntKind.i64.wrap ((D : Int) - 1) = (D : Int) - 1 := by rw [IntKind.wrap_i64]; omega
  have hd5 : decide (300 < len) = false := by simp; omega
  have hd6 : ¬ (300 : Int) < (len : Int) := by omega
  have HZ := Lib.hid hz
  clear hn hx hD hz
  go_enter Try.func5, Try.ntmps5
  go_wp2_with fail
  refine (works13 w).mono ?_
  rintro e wk ⟨rfl, hbk⟩
  go_wp2_with fail
  refine (plan13 (D : Int) wk).mono ?_
  rintro e w1 ⟨rfl, hb1⟩
  go_wp2_with fail
  obtain ⟨W, hW⟩ : ∃ W, W = w1.alloc (Obj.cells #[Value.int .i64 2, .int .i64 1, .int .i64 1, .int .i64 (D : Int)] 25) := ⟨_, rfl⟩
  have hp : W.heap[w1.heap.size]? = some (.cells #[Value.int .i64 2, .int .i64 1, .int .i64 1, .int .i64 (D : Int)] 25 (0, 0)) := by rw [hW]; exact heap_alloc_new _ _
  have hb : Below w.heap.size w W := by rw [hW]; exact btr (btr hbk hb1) (by go_grown)
  rw [← hW]
  clear hW hb1 hbk
  generalize w1.heap.size = Pl at *
  refine (size13 D n _ (by omega) (by omega) hDn.out).mono ?_
  rintro e w2 ⟨rfl, hb2⟩
  have hp2 := (hb2.block Pl (lt_of_heap hp)).trans hp
  have hbw2 := btr hb hb2
  clear hb hb2 hp
  go_wp2_with fail
  refine (new_n n _ (by omega)).mono ?_
  rintro e w3 ⟨rfl, hs, hb3⟩
  have hg : Pl < w2.heap.size := lt_of_heap hp2
  have HL : Hid (LS w w3 (w2.heap.size + 1) w2.heap.size Pl D (List.replicate n 0)) := Lib.hid ⟨⟨hs, btr hbw2 hb3, hbw2.size⟩, (hb3.block Pl hg).trans hp2, by omega⟩
  have HQ := Lib.hid (dq0 0 D n (by have := hDn.out; omega))
  have hb3s : w2.heap.size < w3.heap.size := HL.out.j.1.facts.2.2.2.2.2
  clear hs hb3 hp2 hbw2 hg
  generalize w2.heap.size + 1 = S at *
  generalize w2.heap.size = g at *
  go_wp2_with fail
  have hBw : w.heap.size ≤ w3.heap.size := HL.out.j.2.1.size
  have HI0 : Hid (OI w3 w3.heap.size (.slice none 0 0) []) := Lib.hid (World.ownsRow_nil _ _ _ _)
  obtain ⟨BB, hBB⟩ : ∃ BB, BB = w3.heap.size := ⟨_, rfl⟩
  have hB3 : BB ≤ w3.heap.size := Nat.le_of_eq hBB
  rw [← hBB] at HI0 hb3s hBw
  clear hBB
  go_loopw [7, 8, 9] (fun sv t i wr => ∃ (k T : Nat) (st : List Int) (ad : Option Addr) (cp : Nat) (c : Int) (f : Nat → Int) (xs : List Int), k ≤ len ∧ st.length = T ∧ T ≤ D - 1 ∧ xs.length = n ∧ BB ≤ wr.heap.size ∧ sv = .slice ad T cp ∧ t = .int .i64 (T : Int) ∧ i = .int .i64 (k : Int) ∧ Hid (OI wr BB (.slice ad T cp) st) ∧ Hid (LS w wr S g Pl D xs) ∧ Hid (Dq 0 D xs 0 (T : Int) c c f) ∧ Hid (Hold f st)) (fun _ _ i _ => len - (intOf i).toNat)
  case atStart => exact ⟨0, 0, [], none, 0, 0, _, _, by omega, rfl, by omega, by simp, hB3, rfl, rfl, rfl, HI0, HL, HQ, Lib.hid (fun i hi => by simp at hi)⟩
  case round =>
    clear HL HQ HI0 hB3
    obtain ⟨k, T, st, ad, cp, c, f, xs, hk, hT, hTD, hl, hBr, rfl, rfl, rfl, HI, HL, HQ, HH⟩ := hrel
    by_cases hlt : k < len
    · obtain ⟨b, off, rfl, hbl, z1, z2, y0, y1⟩ := HZ.out k hlt
      have hbw := HL.out.j.2.1
      have hbl2 : b < wr.heap.size := Nat.lt_of_lt_of_le hbl hbw.size
      have HZ2 := Lib.hid z2
      replace z1 := (hbw.cell (p := ⟨b, off + k * 3 + 1, none⟩) hbl).trans z1
      replace z2 := (hbw.cell (p := ⟨b, off + k * 3 + 2, none⟩) hbl).trans z2
      clear hbw
      generalize z k 1 = y at *
      generalize z k 2 = v at *
      obtain ⟨r, hr⟩ : ∃ r, y.tmod 3 = r := ⟨_, rfl⟩
      have hr0 : 0 ≤ r ∧ r < 3 := by rw [← hr, Int.tmod_eq_emod_of_nonneg (by omega)]; omega
      have hrw : IntKind.u8.wrap r = r := by rw [IntKind.wrap_u8]; omega
      obtain ⟨c0, c1, c2, c3⟩ := HL.out.cells
      by_cases hr2 : r < 2
      · go_wp2_with fail
        have HK : Hid (∀ w', Below wr.heap.size wr w' → Below wr.heap.size wr w' ∧ w'.cell? ⟨Pl, 0, none⟩ = some (.int .i64 2) ∧ w'.cell? ⟨Pl, 1, none⟩ = some (.int .i64 1) ∧ w'.cell? ⟨Pl, 2, none⟩ = some (.int .i64 1) ∧ w'.cell? ⟨Pl, 3, none⟩ = some (.int .i64 (D : Int)) ∧ w'.cell? ⟨b, off + k * 3 + 2, none⟩ = some (.int .i64 v)) := Lib.hid fun w' hb => ⟨hb, keepc c0 hb, keepc c1 hb, keepc c2 hb, keepc c3 hb, keepc z2 hb⟩
        clear c0 c1 c2 c3 z1 z2
        go_region_held3 (fun w' => Below wr.heap.size wr w' ∧ w'.cell? ⟨Pl, 0, none⟩ = some (.int .i64 2) ∧ w'.cell? ⟨Pl, 1, none⟩ = some (.int .i64 1) ∧ w'.cell? ⟨Pl, 2, none⟩ = some (.int .i64 1) ∧ w'.cell? ⟨Pl, 3, none⟩ = some (.int .i64 (D : Int)) ∧ w'.cell? ⟨b, off + k * 3 + 2, none⟩ = some (.int .i64 v))
          (first | (with_reducible assumption) | exact HK.out _ (Below.refl _ _) | exact HK.out _ hb5 | (refine HK.out _ ?_; go_grown; done))
          (first | (go_at_call 17; refine (push_new S g D 0 (T : Int) v xs w _ (HL.out.j.below' (by go_grown)) (by omega) (by omega)).mono ?_; rintro e w4 ⟨A, rfl, hA, hb4, hS4⟩; have hb5 : Below wr.heap.size wr w4 := btr (by go_grown) hb4))
        have hA2 : wr.heap.size ≤ A := by simpa using hA
        have HP : Hid (Pl ≠ A) := Lib.hid (by have := HL.out.lt; omega)
        have HL4 := Lib.hid (HL.out.below hb5)
        have HS4 := Lib.hid hS4
        have HB5 := Lib.hid hb5
        clear hA hb4 hS4 hb5 HL HK
        go_wp2_with fail
        by_cases hTF : T < D - 1
        · obtain ⟨xs5, hR, q5, hl5⟩ := push_run (S := S) (g := g) (A := A) (kk := 0) T v (by rw [hl]; exact hO.out) HQ.out (by omega) (by omega)
          refine (run_of S g A 3 _ _ _ _ w _ hR (by omega) HS4.out).mono ?_
          rintro e w5 ⟨rfl, hS, hF⟩
          have HL5 := Lib.hid (HL4.out.step hS hF HP.out)
          have HS5 := Lib.hid hS
          have HI5 := Lib.hid (oi_fr HI.out HB5.out hF hb3s hA2)
          have HQ5 := Lib.hid q5
          have hBr5 : BB ≤ w5.heap.size := Nat.le_trans hBr (Nat.le_trans HB5.out.size hF.1)
          have hdc : decide ((D : Int) - 1 ≤ (T : Int)) = false := by simp; omega
          have C := Lib.hid (fun q => (full_of A ⟨D, 0, (T : Int) + 1, v, 0, 0, 0, 0, false, false, .nilFunc⟩ (w5.drewN q) (HS5.out.a.below (below_drewN (Below.refl _ _) q))).mono fun _ _ hh => (⟨hh.1, q, hh.2⟩ : _ ∧ ∃ m, _ = w5.drewN m))
          have c3 := HL5.out.cells.2.2.2
          have z5 : w5.cell? ⟨b, off + k * 3 + 2, none⟩ = some (.int .i64 v) := (HL5.out.j.2.1.cell (p := ⟨b, off + k * 3 + 2, none⟩) hbl).trans HZ2.out
          have hbl5 : b < w5.heap.size := Nat.lt_of_lt_of_le hbl HL5.out.j.2.1.size
          clear hR hS hF HL4 HS4 HI HB5 q5 HQ HP hA2 hBr
          go_wp2_with fail
          go_quiet ((go_at_call 23; exact C.out _))
          have hb9 : Below w5.heap.size w5 (w5.drewN nq) := below_drewN (Below.refl _ _) nq
          obtain ⟨w9, hw9⟩ : ∃ w9, w5.drewN nq = w9 := ⟨_, rfl⟩
          rw [hw9] at hb9 ⊢
          have HL9 := Lib.hid (HL5.out.below hb9)
          have HS9 := Lib.hid (HS5.out.below hb9)
          have HI9 := Lib.hid (OI.below HI5.out hb9)
          have z9 := keepc z5 hb9
          have hbl9 : b < w9.heap.size := Nat.lt_of_lt_of_le hbl5 hb9.size
          have hBr9 : BB ≤ w9.heap.size := Nat.le_trans hBr5 hb9.size
          clear hw9 hb9 z5 c3 C HL5 HS5 HI5 hbl5 hBr5
          go_wp2_with (first | (go_at_call 23; refine (full_of A _ _ HS9.out.a).mono ?_; rintro e wx ⟨rfl, rfl⟩))
          have HV : Hid (View _ (.slice ad T cp) st) := Lib.hid (view_of_own HI9.out)
          have HK : Hid (∀ w', Below wx.heap.size wx w' → Below wx.heap.size wx w' ∧ w'.cell? ⟨b, off + k * 3 + 2, none⟩ = some (.int .i64 v)) := Lib.hid fun w' hb => ⟨hb, keepc z9 hb⟩
          clear z9
          go_region_held3 (fun w' => Below wx.heap.size wx w' ∧ w'.cell? ⟨b, off + k * 3 + 2, none⟩ = some (.int .i64 v))
            (first | (with_reducible assumption) | exact HK.out _ (Below.refl _ _) | exact HK.out _ hb7 | exact HK.out _ hb6 | (refine HK.out _ ?_; go_grown; done) | (refine HK.out _ (btr hb6 ?_); go_grown; done))
            (first
              | ((refine step_copyI rfl _ _ (by rfl) wx.heap.size wx.heap.size (.slice ad T cp) st ?_ ?_ ?_ ?_ ?_ T hT ?_ ?_); (focus rfl); (focus rfl); (focus (first | exact heap_alloc_new _ _ | exact heap_top wx.heap _ _ _ rfl | exact heap_mid wx.heap _ _ _ rfl)); (focus omega); (focus exact (HV.out.below (by go_grown))); (focus omega); intro ad2 cp2 w6 ho6 hg6; have hb6 : Below wx.heap.size wx w6 := Below.grown (show Below wx.heap.size wx _ by go_grown) hg6 (by simp <;> omega) (by intro k hk; cases hk; omega); (refine (have hx6 : w6.cell? ⟨wx.heap.size + 1, 0, none⟩ = some (.int .i64 v) := (hg6.cell_far _ ?_ ?_).trans ?_; ?_)); (focus (simp <;> omega)); (focus (simp <;> omega)); (focus (go_simp; done)))
              | ((refine step_copyI rfl _ _ (by rfl) wx.heap.size wx.heap.size (.slice ad T cp) st ?_ ?_ ?_ ?_ ?_ T hT ?_ ?_); (focus rfl); (focus rfl); (focus (first | exact heap_alloc_new _ _ | exact heap_top wx.heap _ _ _ rfl | exact heap_mid wx.heap _ _ _ rfl)); (focus omega); (focus exact (HV.out.below (by go_grown))); (focus omega); intro ad2 cp2 w6 ho6 hg6; have hb6 : Below wx.heap.size wx w6 := Below.grown (show Below wx.heap.size wx _ by go_grown) hg6 (by simp <;> omega) (by intro k hk; cases hk; omega))
              | ((refine step_oneI rfl _ _ (by rfl) wx.heap.size (.slice ad2 T cp2) st (wx.heap.size + 1) 1 v ?_ ?_ ?_ ?_ (T + 1) ?_ ?_ ?_ ?_); (focus rfl); (focus rfl); (focus first | exact ho6 | exact Lib.hid (OI.below ho6.out (by go_grown))); (focus exact keepc hx6 (by go_grown)); (focus omega); (focus omega); (focus (have := hb6.size; simp; omega)); intro ad3 cp3 w7 ho7 hg7; have hb7 : Below wx.heap.size wx w7 := Below.grown (btr hb6 (by go_grown)) hg7 (by have := hb6.size; simp; omega) (fun k hk => (World.ownsRow.lt ho6.out k hk).1))
              | ((refine step_oneI rfl _ _ (by rfl) wx.heap.size (.slice ad2 T cp2) st wx.heap.size 1 v ?_ ?_ ?_ ?_ (T + 1) ?_ ?_ ?_ ?_); (focus rfl); (focus rfl); (focus first | exact ho6 | exact Lib.hid (OI.below ho6.out (by go_grown))); (focus exact keepc hx6 (by go_grown)); (focus omega); (focus omega); (focus (have := hb6.size; simp; omega)); intro ad3 cp3 w7 ho7 hg7; have hb7 : Below wx.heap.size wx w7 := Below.grown (btr hb6 (by go_grown)) hg7 (by have := hb6.size; simp; omega) (fun k hk => (World.ownsRow.lt ho6.out k hk).1))
              | ((refine step_oneI rfl _ _ (by rfl) wx.heap.size (.slice ad2 T cp2) st w6.heap.size 1 v ?_ ?_ ?_ ?_ (T + 1) ?_ ?_ ?_ ?_); (focus rfl); (focus rfl); (focus first | exact ho6 | exact Lib.hid (OI.below ho6.out (by go_grown))); (focus first | exact cell_mid wx.heap _ _ _ _ rfl | (go_simp; done)); (focus omega); (focus omega); (focus (have := hb6.size; simp; omega)); intro ad3 cp3 w7 ho7 hg7; have hb7 : Below wx.heap.size wx w7 := Below.grown (btr hb6 (by go_grown)) hg7 (by have := hb6.size; simp; omega) (fun k hk => (World.ownsRow.lt ho6.out k hk).1))
              | ((refine step_copyI rfl _ _ (by rfl) (wx.heap.size + 1) wx.heap.size (.slice ad T cp) st ?_ ?_ ?_ ?_ ?_ T hT ?_ ?_); (focus rfl); (focus rfl); (focus (first | exact heap_alloc_new _ _ | exact heap_top wx.heap _ _ _ rfl | exact heap_mid wx.heap _ _ _ rfl)); (focus omega); (focus exact (HV.out.below (by go_grown))); (focus omega); intro ad2 cp2 w6 ho6 hg6; have hb6 : Below wx.heap.size wx w6 := Below.grown (show Below wx.heap.size wx _ by go_grown) hg6 (by simp <;> omega) (by intro k hk; cases hk; omega); (refine (have hx6 : w6.cell? ⟨wx.heap.size, 0, none⟩ = some (.int .i64 v) := (hg6.cell_far _ ?_ ?_).trans ?_; ?_)); (focus (simp <;> omega)); (focus (simp <;> omega)); (focus (go_simp; done))))
          all_goals
            have HI7 : Hid (OI w7 BB (.slice ad3 (T + 1) cp3) (st ++ [v])) := Lib.hid (OI.base ho7.out hBr9)
            have HL7 := Lib.hid (HL9.out.below hb7)
            have HS7 := Lib.hid (HS9.out.below hb7)
            have hBr7 : BB ≤ w7.heap.size := Nat.le_trans hBr9 hb7.size
            clear hb7 ho7 hg7 ho6 hg6 hb6 HV HI9 HL9 HS9 HK
            try clear hx6
            go_wp2_with (first | (go_at_call 24; refine (tail_of A _ _ HS7.out.a).mono ?_; rintro e wz ⟨rfl, rfl⟩))
            go_roundw
            case rel => exact ⟨k + 1, T + 1, st ++ [v], ad3, cp3, c, _, xs5, by omega, by simp; omega, by omega, by omega, hBr7, rfl, rfl, by go_num, HI7, HL7, HQ5, Lib.hid (by rw [← hT]; exact HH.out.push v (by omega))⟩
            case measure => simp [intOf]; omega
        · have hR := push_full (S := S) (g := g) (A := A) (kk := 0) T v (by rw [hl]; exact hO.out) HQ.out (by omega) (by omega)
          refine (run_of S g A 1 _ _ _ _ w _ hR (by omega) HS4.out).mono ?_
          rintro e w5 ⟨rfl, hS, hF⟩
          have HL5 := Lib.hid (HL4.out.step hS hF HP.out)
          have HS5 := Lib.hid hS
          have HI5 := Lib.hid (oi_fr HI.out HB5.out hF hb3s hA2)
          have hBr5 : BB ≤ w5.heap.size := Nat.le_trans hBr (Nat.le_trans HB5.out.size hF.1)
          have hdc : decide ((D : Int) - 1 ≤ (T : Int)) = true := by simp; omega
          have C := Lib.hid (fun q => (full_of A ⟨D, 0, (T : Int), v, 0, 0, 0, 0, false, true, .nilFunc⟩ (w5.drewN q) (HS5.out.a.below (below_drewN (Below.refl _ _) q))).mono fun _ _ hh => (⟨hh.1, q, hh.2⟩ : _ ∧ ∃ m, _ = w5.drewN m))
          have c3 := HL5.out.cells.2.2.2
          clear hR hS hF HL4 HS4 HI HB5 HP hA2 hBr
          go_wp2_with fail
          go_quiet ((go_at_call 23; exact C.out _))
          have hb9 : Below w5.heap.size w5 (w5.drewN nq) := below_drewN (Below.refl _ _) nq
          obtain ⟨w9, hw9⟩ : ∃ w9, w5.drewN nq = w9 := ⟨_, rfl⟩
          rw [hw9] at hb9 ⊢
          have HL9 := Lib.hid (HL5.out.below hb9)
          have HS9 := Lib.hid (HS5.out.below hb9)
          have HI9 := Lib.hid (OI.below HI5.out hb9)
          have hBr9 : BB ≤ w9.heap.size := Nat.le_trans hBr5 hb9.size
          clear hw9 hb9 c3 C HL5 HS5 HI5 hBr5
          go_wp2_with (first | (go_at_call 23; refine (full_of A _ _ HS9.out.a).mono ?_; rintro e wx ⟨rfl, rfl⟩) | (go_at_call 24; refine (tail_of A _ _ HS9.out.a).mono ?_; rintro e wx ⟨rfl, rfl⟩))
          go_roundw
          case rel => exact ⟨k + 1, T, st, ad, cp, c, f, xs, by omega, hT, hTD, hl, hBr9, rfl, rfl, by go_num, HI9, HL9, HQ, HH⟩
          case measure => simp [intOf]; omega
      · clear z2
        have hkey : (ad = none ∧ cp = 0 ∧ T = 0) ∨ (∃ gk, ad = some ⟨gk, 0, none⟩ ∧ T = 0) ∨ (∃ gk T', ad = some ⟨gk, 0, none⟩ ∧ T' + 1 = T ∧ T ≤ cp) := by
          obtain ⟨ad', cp', he, hnil, _, hle, hsm⟩ := OI.form HI.out
          rw [Value.slice.injEq] at he
          obtain ⟨rfl, _, rfl⟩ := he
          cases ad with
          | none => exact .inl ⟨rfl, (hnil rfl).2, by rw [← hT, (hnil rfl).1]; rfl⟩
          | some ad =>
            obtain ⟨gk, rfl, _⟩ := hsm ad rfl
            by_cases h : T = 0
            · exact .inr (.inl ⟨gk, rfl, h⟩)
            · exact .inr (.inr ⟨gk, T - 1, rfl, by omega, by omega⟩)
        rcases hkey with ⟨rfl, rfl, rfl⟩ | ⟨gk, rfl, rfl⟩ | ⟨gk, T', rfl, hT', hcp⟩
        · go_wp2_with fail
          refine (pop_new S g D 0 ((0 : Nat) : Int) _ w _ HL.out.j (by omega) (by omega)).mono ?_
          rintro e w4 ⟨A, rfl, hA2, hb5, hS4⟩
          have HP : Hid (Pl ≠ A) := Lib.hid (by have := HL.out.lt; omega)
          have HL4 := Lib.hid (HL.out.below hb5)
          have HS4 := Lib.hid hS4
          have HB5 := Lib.hid hb5
          clear hS4 hb5 HL c0 c1 c2 c3
          go_wp2_with fail
          obtain ⟨xs5, o5, hR, htl, hhs, hnx, q5, hl5⟩ := pop_none (S := S) (g := g) (A := A) (kk := 0) 0 (by rw [hl]; exact hO.out) HQ.out (by omega) (by omega)
          refine (run_of S g A 9 _ _ _ _ w _ hR (by omega) HS4.out).mono ?_
          rintro e w5 ⟨rfl, hS, hF⟩
          have HL5 := Lib.hid (HL4.out.step hS hF HP.out)
          have HS5 := Lib.hid hS
          have HI5 := Lib.hid (oi_fr HI.out HB5.out hF hb3s hA2)
          have hBr5 : BB ≤ w5.heap.size := Nat.le_trans hBr (Nat.le_trans HB5.out.size hF.1)
          have HQ5 := Lib.hid q5
          have C := Lib.hid (fun w h => got_of A o5 true 0 false w h (Lib.hid (Or.inl ⟨hnx, rfl⟩)) (Lib.hid (Or.inr ⟨Or.inr hhs, rfl, rfl⟩)))
          have C2 : Hid (∀ w, WAt w A o5 → Calls Try.prog 24 #[.pointer (some ⟨A, 0, none⟩)] w fun e w' => e = .returned (.int .i64 0) ∧ w' = w) := Lib.hid (fun w h => by have := tail_of A o5 w h; rw [htl] at this; exact this)
          clear hR hS hF HL4 HS4 HI HB5 HP hA2 hBr q5 HQ htl hhs hnx
          go_wp2_with fail
          refine (C.out _ HS5.out.a).mono ?_
          rintro e w6 ⟨rfl, rfl⟩
          go_wp2_with (first | (go_at_call 24; refine (C2.out _ HS5.out.a).mono ?_; rintro e wx ⟨rfl, rfl⟩))
          go_roundw
          case rel => exact ⟨k + 1, 0, st, _, _, _, f, xs5, by omega, hT, by omega, by omega, hBr5, rfl, rfl, by go_num, HI5, HL5, HQ5, HH⟩
          case measure => simp [intOf]; omega
        · go_wp2_with fail
          refine (pop_new S g D 0 ((0 : Nat) : Int) _ w _ HL.out.j (by omega) (by omega)).mono ?_
          rintro e w4 ⟨A, rfl, hA2, hb5, hS4⟩
          have HP : Hid (Pl ≠ A) := Lib.hid (by have := HL.out.lt; omega)
          have HL4 := Lib.hid (HL.out.below hb5)
          have HS4 := Lib.hid hS4
          have HB5 := Lib.hid hb5
          clear hS4 hb5 HL c0 c1 c2 c3
          go_wp2_with fail
          obtain ⟨xs5, o5, hR, htl, hhs, hnx, q5, hl5⟩ := pop_none (S := S) (g := g) (A := A) (kk := 0) 0 (by rw [hl]; exact hO.out) HQ.out (by omega) (by omega)
          refine (run_of S g A 9 _ _ _ _ w _ hR (by omega) HS4.out).mono ?_
          rintro e w5 ⟨rfl, hS, hF⟩
          have HL5 := Lib.hid (HL4.out.step hS hF HP.out)
          have HS5 := Lib.hid hS
          have HI5 := Lib.hid (oi_fr HI.out HB5.out hF hb3s hA2)
          have hBr5 : BB ≤ w5.heap.size := Nat.le_trans hBr (Nat.le_trans HB5.out.size hF.1)
          have HQ5 := Lib.hid q5
          have C := Lib.hid (fun w h => got_of A o5 true 0 false w h (Lib.hid (Or.inl ⟨hnx, rfl⟩)) (Lib.hid (Or.inr ⟨Or.inr hhs, rfl, rfl⟩)))
          have C2 : Hid (∀ w, WAt w A o5 → Calls Try.prog 24 #[.pointer (some ⟨A, 0, none⟩)] w fun e w' => e = .returned (.int .i64 0) ∧ w' = w) := Lib.hid (fun w h => by have := tail_of A o5 w h; rw [htl] at this; exact this)
          clear hR hS hF HL4 HS4 HI HB5 HP hA2 hBr q5 HQ htl hhs hnx
          go_wp2_with fail
          refine (C.out _ HS5.out.a).mono ?_
          rintro e w6 ⟨rfl, rfl⟩
          go_wp2_with (first | (go_at_call 24; refine (C2.out _ HS5.out.a).mono ?_; rintro e wx ⟨rfl, rfl⟩))
          go_roundw
          case rel => exact ⟨k + 1, 0, st, _, _, _, f, xs5, by omega, hT, by omega, by omega, hBr5, rfl, rfl, by go_num, HI5, HL5, HQ5, HH⟩
          case measure => simp [intOf]; omega
        · have hTi : (T' : Int) + 1 = (T : Int) := by omega
          go_wp2_with fail
          refine (pop_new S g D 0 (T : Int) _ w _ HL.out.j (by omega) (by omega)).mono ?_
          rintro e w4 ⟨A, rfl, hA2, hb5, hS4⟩
          have HP : Hid (Pl ≠ A) := Lib.hid (by have := HL.out.lt; omega)
          have HL4 := Lib.hid (HL.out.below hb5)
          have HS4 := Lib.hid hS4
          have HB5 := Lib.hid hb5
          clear hS4 hb5 HL c0 c1 c2 c3
          go_wp2_with fail
          obtain ⟨u, hu⟩ : ∃ u, st.getD T' 0 = u := ⟨_, rfl⟩
          obtain ⟨xs5, hR, q5, hl5⟩ := pop_run' (S := S) (g := g) (A := A) (kk := 0) T' (T : Int) u (by rw [hl]; exact hO.out) HQ.out (by omega) (by omega) (by rw [Nat.mod_eq_of_lt (by omega), HH.out T' (by omega), hu]) hTi
          refine (run_of S g A 3 _ _ _ _ w _ hR (by omega) HS4.out).mono ?_
          rintro e w5 ⟨rfl, hS, hF⟩
          have HL5 := Lib.hid (HL4.out.step hS hF HP.out)
          have HS5 := Lib.hid hS
          have HI5 := Lib.hid (oi_fr HI.out HB5.out hF hb3s hA2)
          have hBr5 : BB ≤ w5.heap.size := Nat.le_trans hBr (Nat.le_trans HB5.out.size hF.1)
          have HQ5 := Lib.hid q5
          have C := Lib.hid (fun w h => got_of A ⟨D, 0, (T' : Int), 0, 0, 0, 0, u, true, false, .nilFunc⟩ true u true w h (Lib.hid (Or.inl ⟨rfl, rfl⟩)) (Lib.hid (Or.inl ⟨rfl, rfl, rfl, rfl⟩)))
          have hc : w5.cell? ⟨gk, T', none⟩ = some (.int .i64 u) := by
            obtain ⟨ad', cp', he, _, _, _, hsm⟩ := OI.form HI5.out
            rw [Value.slice.injEq] at he
            obtain ⟨rfl, _, rfl⟩ := he
            obtain ⟨g', e, _, _, hce⟩ := hsm _ rfl
            rw [Addr.mk.injEq] at e
            obtain ⟨rfl, _, _⟩ := e
            have := hce T' (by omega)
            rw [hu, Nat.zero_add] at this
            exact this
          have HC := Lib.hid (OI.cut HI5.out T' (by omega) hT.symm)
          have HH2 := Lib.hid (HH.out.take T')
          have hw0 : (T : Int) - 1 = (T' : Int) := by omega
          have hw1 : IntKind.i64.wrap ((T : Int) - 1) = (T' : Int) := by rw [IntKind.wrap_i64]; omega
          have hw2 : IntKind.i64.wrap (T' : Int) = (T' : Int) := by rw [IntKind.wrap_i64]; omega
          have hg1 : decide ((0 : Int) < (T : Int)) = true := by simp; omega
          have hg2 : (0 : Int) < (T : Int) := by omega
          have hg3 : (T' : Int) < (T : Int) := by omega
          have hg4 : (T' : Int) ≤ (cp : Int) := by omega
          have hg5 : ¬ (T' : Int) < 0 := by omega
          have hlt2 : (st.take T').length = T' := by rw [List.length_take]; omega
          clear hR hS hF HL4 HS4 HI HB5 HP hA2 hBr q5 HQ HI5 HH hu hTi
          go_wp2_with fail
          refine (C.out _ HS5.out.a).mono ?_
          rintro e w6 ⟨rfl, rfl⟩
          go_wp2_with (first | (go_at_call 24; refine (tail_of A _ _ HS5.out.a).mono ?_; rintro e wx ⟨rfl, rfl⟩))
          go_roundw
          case rel => exact ⟨k + 1, T', st.take T', _, _, _, f, xs5, by omega, hlt2, by omega, by omega, hBr5, rfl, rfl, by go_num, HC, HL5, HQ5, HH2⟩
          case measure => simp [intOf]; omega
    · obtain rfl : k = len := by omega
      go_wp2_with (first
        | (go_at_call 22; refine (got_nil _).mono ?_; rintro e wx ⟨rfl, rfl⟩)
        | (go_at_call 14; refine (ended_nil _).mono ?_; rintro e wx ⟨rfl, rfl⟩)
        | (go_at_call 20; refine (step_nil S _).mono ?_; rintro e wx ⟨rfl, rfl⟩)
        | (go_at_call 23; refine (full_nil _).mono ?_; rintro e wx ⟨rfl, rfl⟩)
        | (go_at_call 24; refine (tail_nil _).mono ?_; rintro e wx ⟨rfl, rfl⟩))
      go_ret
      exact ⟨rfl, HL.out.j.2.1⟩
set_option maxRecDepth 20000 in
theorem walk (a0 : Int) (a1 : Option Addr) (len1 cap1 : Nat) (z1 : Nat → Nat → Int) (w : World) (w0 : (Lit.int .u8 a0).wf = true) (w1 : IsGrid [.u8, .u8, .i64] w a1 len1 cap1 z1) :
    Calls Try.prog 5 #[.int .u8 a0, .slice a1 len1 cap1] w fun e w' => e = .returned (.bool true) ∧ Below w.heap.size w w' := by
  have h0 : 0 ≤ a0 ∧ a0 ≤ 255 := bounds_u8 w0
  obtain ⟨x, rfl⟩ : ∃ x : Nat, a0 = (x : Int) := ⟨a0.toNat, by omega⟩
  by_cases hl : len1 ≤ 300
  · refine core x _ _ len1 cap1 a1 z1 w (by omega) rfl rfl hl fun k hk => ?_
    rcases w1.split (by decide) with h | ⟨b, off, rfl, hb, hle, hm, hc⟩
    · omega
    · have c1 := hc k (by omega) 1 .u8 rfl
      have c2 := hc k (by omega) 2 .i64 rfl
      have hy := bounds_u8 c1.2
      exact ⟨b, off, rfl, hb, by rw [Nat.add_assoc]; exact c1.1, by rw [Nat.add_assoc]; exact c2.1, hy.1, hy.2⟩
  · have hd5 : decide (300 < len1) = true := by simp; omega
    have hd6 : (300 : Int) < (len1 : Int) := by omega
    go_enter Try.func5, Try.ntmps5
    go_wp2_with fail
    refine (works13 w).mono ?_
    rintro e wk ⟨rfl, hbk⟩
    go_wp2_with fail
    go_ret
    exact ⟨rfl, hbk⟩
end Go.Proofs.Ytegbifphekhgkaa.dequeAlone
