/- How many have nothing to do, and wait; what has to work (layer 37). -/
import Derived.Test.YtpflimnngilhnaaAuD
import Derived.Test.YtpflimnngilhnaaMats
namespace Go.Proofs.Ytpflimnngilhnaa.au
open Go.ChangeShapes Go.WideShapes Go.ChangeAt Go.RowKit
open Go.Proofs.Ytpflimnngilhnaa.rh
set_option linter.unusedVariables false
set_option linter.unusedSimpArgs false
def idN (vs : List (Int × Int)) : Nat → Nat
  | 0 => 0
  | k + 1 => idN vs k + if (vs.getD k (0, 0)).1 = 0 ∨ (vs.getD k (0, 0)).1 = 1 then 1 else 0
theorem idN_le (vs : List (Int × Int)) (k : Nat) : idN vs k ≤ k := by
  induction k with
  | zero => exact Nat.le_refl _
  | succ k ih => simp only [idN]; split <;> omega
def wtN (D : List (List Int)) : Nat → Nat
  | 0 => 0
  | k + 1 => wtN D k + (D.getD k []).length
theorem idle_of (av : Option Addr) (nv cv : Nat) (vs : List (Int × Int)) (r : Nat) (w : World) (hv : RV 4 enV w (.slice av nv cv) vs) (hr : idN vs nv = r) :
    Calls Try.prog 10 #[.slice av nv cv] w fun e w' => e = .returned (.int .i64 (r : Int)) ∧ Below w.heap.size w w' := by
  obtain ⟨hvl, hv1, hv2⟩ := hv.len
  unfold maxLen at hv2
  have HV := Lib.hid hv
  have HVL := Lib.hid hvl
  have HR := Lib.hid hr
  clear hv hvl hr
  go_enter Try.func10, Try.ntmps10
  go_wp2_with fail
  go_loopw [3, 8] (fun m i wr => ∃ (k x : Nat), k ≤ nv ∧ i = .int .i64 (k : Int) ∧ m = .int .i64 (x : Int) ∧ x ≤ k ∧ Hid (idN vs k = x) ∧ Hid (Below w.heap.size w wr)) (fun _ i _ => nv - (intOf i).toNat)
  case atStart => exact ⟨0, 0, by omega, rfl, rfl, by omega, Lib.hid rfl, Lib.hid (Below.refl _ _)⟩
  case round =>
    obtain ⟨k, x, hk, rfl, rfl, hxk, HX, HB⟩ := hrel
    by_cases hlt : k < nv
    · obtain ⟨b, o, rfl, hbl, hc⟩ := (HV.out.below HB.out).at k _ (getD_vs (by rw [← HVL.out]; exact hlt))
      obtain ⟨p, hp⟩ : ∃ p, vs.getD k (0, 0) = p := ⟨_, rfl⟩
      rw [hp] at hc
      obtain ⟨s, id⟩ := p
      have c0 : wr.cell? ⟨b, o + k * 4, none⟩ = some (.int .i64 s) := hc 0 _ rfl
      have c1 : wr.cell? ⟨b, o + k * 4 + 1, none⟩ = some (.int .i64 id) := hc 1 _ rfl
      have c2 : wr.cell? ⟨b, o + k * 4 + 2, none⟩ = some (.int .i64 0) := hc 2 _ rfl
      have c3 : wr.cell? ⟨b, o + k * 4 + 3, none⟩ = some (.int .i64 0) := hc 3 _ rfl
      have HN : Hid (idN vs (k + 1) = x + if s = 0 ∨ s = 1 then 1 else 0) := Lib.hid (by rw [idN, HX.out, hp])
      have HB1 := Lib.hid (HB.out.alloc HB.out.size (.cells #[.int .i64 s, .int .i64 id, .int .i64 0, .int .i64 0] 30))
      clear hc hp HB
      by_cases h0 : s = 0
      · subst h0
        have HN1 : Hid (idN vs (k + 1) = x + 1) := Lib.hid (by rw [HN.out, if_pos (.inl rfl)])
        go_wp2_with fail
        go_roundw
        case rel => exact ⟨k + 1, x + 1, by omega, by go_num, by go_num, by omega, HN1, HB1⟩
        case measure => simp [intOf]; omega
      · have h0b : (s == 0) = false := by simpa using h0
        by_cases h1 : s = 1
        · subst h1
          have HN1 : Hid (idN vs (k + 1) = x + 1) := Lib.hid (by rw [HN.out, if_pos (.inr rfl)])
          go_wp2_with fail
          go_roundw
          case rel => exact ⟨k + 1, x + 1, by omega, by go_num, by go_num, by omega, HN1, HB1⟩
          case measure => simp [intOf]; omega
        · have h1b : (s == 1) = false := by simpa using h1
          have HN1 : Hid (idN vs (k + 1) = x) := Lib.hid (by rw [HN.out, if_neg (by omega)]; rfl)
          go_wp2_with fail
          go_roundw
          case rel => exact ⟨k + 1, x, by omega, by go_num, rfl, by omega, HN1, HB1⟩
          case measure => simp [intOf]; omega
    · obtain rfl : k = nv := by omega
      have HF : Hid (x = r) := Lib.hid (by rw [← HX.out, HR.out])
      go_wp2_with fail
      go_ret
      exact ⟨by rw [← HF.out]; rfl, HB.out⟩
theorem waiting_of (ad : Option Addr) (nd cd : Nat) (D : List (List Int)) (r : Nat) (w : World) (hD : MV w (.slice ad nd cd) D) (hn : nd ≤ 1000) (hrw : ∀ i, (D.getD i []).length ≤ 1000) (hr : wtN D nd = r) :
    Calls Try.prog 11 #[.slice ad nd cd] w fun e w' => e = .returned (.int .i64 (r : Int)) ∧ w = w' := by
  have H := Lib.hid hD
  have HR := Lib.hid hr
  have HRW := Lib.hid hrw
  clear hD hr hrw
  go_enter Try.func11, Try.ntmps11
  go_wp2_with fail
  go_loop [3, 8] (fun m i => ∃ (k x : Nat), k ≤ nd ∧ i = .int .i64 (k : Int) ∧ m = .int .i64 (x : Int) ∧ x ≤ 1000 * k ∧ Hid (wtN D k = x)) (fun _ i => nd - (intOf i).toNat)
  case atStart => exact ⟨0, 0, by omega, rfl, rfl, by omega, Lib.hid rfl⟩
  case round =>
    obtain ⟨k, x, hk, rfl, rfl, hxk, HX⟩ := hrel
    by_cases hlt : k < nd
    · obtain ⟨b, o, a1, c1, rfl, hbl, hcl, hv⟩ := H.out.row k hlt
      have hl := HRW.out k
      obtain ⟨m, hm⟩ : ∃ m, (D.getD k []).length = m := ⟨_, rfl⟩
      rw [hm] at hcl hl
      have HN : Hid (wtN D (k + 1) = x + m) := Lib.hid (by rw [wtN, HX.out, hm])
      clear hv hm
      go_wp2_with fail
      go_round
      case rel => exact ⟨k + 1, x + m, by omega, by go_num, by go_num, by omega, HN⟩
      case measure => simp [intOf]; omega
    · obtain rfl : k = nd := by omega
      have HF : Hid (x = r) := Lib.hid (by rw [← HX.out, HR.out])
      go_wp2_with fail
      go_ret
      exact ⟨by rw [← HF.out]; rfl, rfl⟩
theorem check_nil (w : World) : Calls Try.prog 28 #[.pointer none] w fun e w' => e = .returned (.int .i64 7) ∧ w = w' := by
  go_enter Try.func28, Try.ntmps28
  go_wp2_with fail
  go_ret
  exact ⟨rfl, rfl⟩
theorem rv_lit {α : Type} {k : Nat} {en : α → List Value} (hr : Rec k en) {w : World} {g e : Nat} {cs : Array Value} (xs : List α) (h : w.heap[g]? = some (.cells cs e (0, 0))) (hcs : cs.toList = flat en xs) (hl : xs.length ≤ maxLen) : RV k en w (.slice (some ⟨g, 0, none⟩) xs.length xs.length) xs :=
  ⟨_, xs.length, rfl, Nat.le_refl _, hl, (fun e => by cases e), fun i x hx => ⟨g, 0, rfl, (Array.getElem?_eq_some_iff.1 h).1, fun j u hu => by
    have h1 := flat_at hr xs i x j u hx hu
    rw [← hcs] at h1
    have h2 : cs[i * k + j]? = some u := by simpa using h1
    rw [Nat.zero_add]
    simp [World.cell?, h, h2]⟩⟩
theorem mv_lit {w : World} {g : Nat} {us : List Value} (L : List (List Int)) (h : w.heap[g]? = some (.cells us.toArray 24 (0, 0))) (hl : us.length = L.length) (hm : L.length ≤ maxLen) (hv : ∀ i u, us[i]? = some u → View w u (L.getD i [])) : MV w (.slice (some ⟨g, 0, none⟩) L.length L.length) L := by
  refine ⟨_, L.length, rfl, Nat.le_refl _, hm, fun i hi => ?_⟩
  have hi2 : i < us.length := by omega
  refine ⟨g, 0, us[i], rfl, (Array.getElem?_eq_some_iff.1 h).1, ?_, hv i _ (List.getElem?_eq_getElem hi2)⟩
  rw [Nat.zero_add]
  simp [World.cell?, h, hi2]
theorem e1 : lkE [1] [(4, 1)] [] = 0 := by decide
theorem e2 : lkE [1] [(4, 1)] [[1]] = 10 := by decide
theorem e3 : lkE [3] [(4, 1)] [] = 5 := by decide
theorem e4 : idN [(0, 0), (4, 0)] 2 = 1 := by decide
theorem e5 : wtN [[1, 2], [3]] 2 = 3 := by decide
theorem one_rv (w : World) : RV 4 enV (w.alloc (.cells #[.int .i64 4, .int .i64 1, .int .i64 0, .int .i64 0] 30)) (.slice (some ⟨w.heap.size, 0, none⟩) 1 1) [(4, 1)] :=
  rv_lit recV [(4, 1)] (heap_box1 w #[.int .i64 4, .int .i64 1, .int .i64 0, .int .i64 0] 30) rfl (by simp [maxLen])
theorem sz_alloc (w : World) (o : Obj) : (w.alloc o).heap.size = w.heap.size + 1 := by simp
theorem bel_alloc (w : World) (o : Obj) : Below w.heap.size w (w.alloc o) := (Below.refl _ _).alloc (Nat.le_refl _) _
theorem look1 (W : World) (g : Nat) (x c : Int) (h : RV 4 enV W (.slice (some ⟨g, 0, none⟩) 1 1) [(4, 1)]) (hc : lkE [x] [(4, 1)] [] = c) :
    Calls Try.prog 8 #[.slice (some ⟨g, 0, none⟩) 1 1, .slice none 0 0, .slice (some ⟨W.heap.size, 0, none⟩) 1 1] (W.alloc (.cells #[.int .i64 x] 3)) fun e w' => e = .returned (.int .i64 c) ∧ Below W.heap.size W w' :=
  (look_of _ none _ 1 1 0 0 1 1 [(4, 1)] [] [x] c _ (h.below (bel_alloc W _)) (MV.nil _) (view_lit (xs := [x]) (heap_box1 W #[.int .i64 x] 3) rfl (by simp [maxLen])) (by omega) hc).mono fun e w' ⟨h1, h2⟩ => ⟨h1, trans3 (bel_alloc W _) h2⟩
theorem look2 (W : World) (g : Nat) (h : RV 4 enV W (.slice (some ⟨g, 0, none⟩) 1 1) [(4, 1)]) :
    Calls Try.prog 8 #[.slice (some ⟨g, 0, none⟩) 1 1, .slice (some ⟨W.heap.size + 1, 0, none⟩) 1 1, .slice (some ⟨W.heap.size + 1 + 1, 0, none⟩) 1 1] (((W.alloc (.cells #[.int .i64 1] 3)).alloc (.cells #[.slice (some ⟨W.heap.size, 0, none⟩) 1 1] 24)).alloc (.cells #[.int .i64 1] 3)) fun e w' => e = .returned (.int .i64 10) ∧ Below W.heap.size W w' := by
  obtain ⟨W1, hW1⟩ : ∃ W1, W.alloc (.cells #[.int .i64 1] 3) = W1 := ⟨_, rfl⟩
  have s1 : W1.heap.size = W.heap.size + 1 := by rw [← hW1]; exact sz_alloc _ _
  have b1 : Below W.heap.size W W1 := by rw [← hW1]; exact bel_alloc _ _
  have v1 : View W1 (.slice (some ⟨W.heap.size, 0, none⟩) 1 1) [1] := by rw [← hW1]; exact view_lit (xs := [1]) (heap_box1 W #[.int .i64 1] 3) rfl (by simp [maxLen])
  rw [hW1]
  obtain ⟨W2, hW2⟩ : ∃ W2, W1.alloc (.cells #[.slice (some ⟨W.heap.size, 0, none⟩) 1 1] 24) = W2 := ⟨_, rfl⟩
  have s2 : W2.heap.size = W.heap.size + 1 + 1 := by rw [← hW2, sz_alloc, s1]
  have b2 : Below W1.heap.size W1 W2 := by rw [← hW2]; exact bel_alloc _ _
  have m2 : MV W2 (.slice (some ⟨W.heap.size + 1, 0, none⟩) 1 1) [[1]] := by
    rw [← s1]
    refine mv_lit (us := [.slice (some ⟨W.heap.size, 0, none⟩) 1 1]) [[1]] (by rw [← hW2]; exact heap_box1 W1 _ _) rfl (by simp [maxLen]) fun i u hu => ?_
    match i, hu with
    | 0, hu => simp at hu; subst hu; exact v1.below b2
  rw [hW2, ← s2]
  have b3 := bel_alloc W2 (.cells #[.int .i64 1] 3)
  have b12 := trans3 b1 b2
  exact (look_of _ _ _ 1 1 1 1 1 1 [(4, 1)] [[1]] [1] 10 _ ((h.below b12).below b3) (m2.below b3) (view_lit (xs := [1]) (heap_box1 W2 #[.int .i64 1] 3) rfl (by simp [maxLen])) (by omega) e2).mono fun e w' ⟨h1, h2⟩ => ⟨h1, trans3 (trans3 b12 b3) h2⟩
theorem idle1 (W : World) : Calls Try.prog 10 #[.slice (some ⟨W.heap.size, 0, none⟩) 2 2] (W.alloc (.cells #[.int .i64 0, .int .i64 0, .int .i64 0, .int .i64 0, .int .i64 4, .int .i64 0, .int .i64 0, .int .i64 0] 30)) fun e w' => e = .returned (.int .i64 1) ∧ Below W.heap.size W w' :=
  (idle_of _ 2 2 [(0, 0), (4, 0)] 1 _ (rv_lit recV [(0, 0), (4, 0)] (heap_box1 W _ 30) rfl (by simp [maxLen])) e4).mono fun e w' ⟨h1, h2⟩ => ⟨h1, trans3 (bel_alloc W _) h2⟩
theorem wait1 (W : World) : Calls Try.prog 11 #[.slice (some ⟨W.heap.size + 1 + 1, 0, none⟩) 2 2] (((W.alloc (.cells #[.int .i64 1, .int .i64 2] 3)).alloc (.cells #[.int .i64 3] 3)).alloc (.cells #[.slice (some ⟨W.heap.size, 0, none⟩) 2 2, .slice (some ⟨W.heap.size + 1, 0, none⟩) 1 1] 24)) fun e w' => e = .returned (.int .i64 3) ∧ Below W.heap.size W w' := by
  obtain ⟨W1, hW1⟩ : ∃ W1, W.alloc (.cells #[.int .i64 1, .int .i64 2] 3) = W1 := ⟨_, rfl⟩
  have s1 : W1.heap.size = W.heap.size + 1 := by rw [← hW1]; exact sz_alloc _ _
  have b1 : Below W.heap.size W W1 := by rw [← hW1]; exact bel_alloc _ _
  have v1 : View W1 (.slice (some ⟨W.heap.size, 0, none⟩) 2 2) [1, 2] := by rw [← hW1]; exact view_lit (xs := [1, 2]) (heap_box1 W _ 3) rfl (by simp [maxLen])
  rw [hW1]
  obtain ⟨W2, hW2⟩ : ∃ W2, W1.alloc (.cells #[.int .i64 3] 3) = W2 := ⟨_, rfl⟩
  have s2 : W2.heap.size = W.heap.size + 1 + 1 := by rw [← hW2, sz_alloc, s1]
  have b2 : Below W1.heap.size W1 W2 := by rw [← hW2]; exact bel_alloc _ _
  have v2 : View W2 (.slice (some ⟨W.heap.size + 1, 0, none⟩) 1 1) [3] := by rw [← hW2, ← s1]; exact view_lit (xs := [3]) (heap_box1 W1 _ 3) rfl (by simp [maxLen])
  rw [hW2, ← s2]
  have b3 := bel_alloc W2 (.cells #[.slice (some ⟨W.heap.size, 0, none⟩) 2 2, .slice (some ⟨W.heap.size + 1, 0, none⟩) 1 1] 24)
  have m2 : MV (W2.alloc (.cells #[.slice (some ⟨W.heap.size, 0, none⟩) 2 2, .slice (some ⟨W.heap.size + 1, 0, none⟩) 1 1] 24)) (.slice (some ⟨W2.heap.size, 0, none⟩) 2 2) [[1, 2], [3]] := by
    refine mv_lit (us := [.slice (some ⟨W.heap.size, 0, none⟩) 2 2, .slice (some ⟨W.heap.size + 1, 0, none⟩) 1 1]) [[1, 2], [3]] (heap_box1 W2 _ _) rfl (by simp [maxLen]) fun i u hu => ?_
    match i, hu with
    | 0, hu => simp at hu; subst hu; exact (v1.below b2).below b3
    | 1, hu => simp at hu; subst hu; exact v2.below b3
  exact (waiting_of _ 2 2 [[1, 2], [3]] 3 _ m2 (by omega) (fun i => by
    match i with
    | 0 => simp
    | 1 => simp
    | i + 2 => simp) e5).mono fun e w' ⟨h1, h2⟩ => ⟨h1, by rw [← h2]; exact trans3 (trans3 b1 b2) b3⟩
set_option maxRecDepth 20000 in
theorem works37 (w : World) : Calls Try.prog 7 #[] w fun e w' => e = .returned (.bool true) ∧ Below w.heap.size w w' := by
  have h1 := one_rv w
  have hb1 := bel_alloc w (.cells #[.int .i64 4, .int .i64 1, .int .i64 0, .int .i64 0] 30)
  obtain ⟨W1, hW1⟩ : ∃ W1, w.alloc (.cells #[.int .i64 4, .int .i64 1, .int .i64 0, .int .i64 0] 30) = W1 := ⟨_, rfl⟩
  have hs1 : W1.heap.size = w.heap.size + 1 := by rw [← hW1]; exact sz_alloc _ _
  rw [hW1] at h1 hb1
  obtain ⟨g, hg⟩ : ∃ g, w.heap.size = g := ⟨_, rfl⟩
  rw [hg] at h1 hs1
  have C1 : Hid (Calls Try.prog 8 #[.slice (some ⟨g, 0, none⟩) 1 1, .slice none 0 0, .slice (some ⟨g + 1, 0, none⟩) 1 1] ((w.alloc (.cells #[.int .i64 4, .int .i64 1, .int .i64 0, .int .i64 0] 30)).alloc (.cells #[.int .i64 1] 3)) fun e w' => e = .returned (.int .i64 0) ∧ Below W1.heap.size W1 w') := by
    have h := look1 W1 g 1 0 h1 e1
    rw [hW1]
    exact Lib.hid (by simpa only [hs1] using h)
  have H1 := Lib.hid h1
  have HB1 := Lib.hid hb1
  have HG := Lib.hid hg
  clear h1 hb1 hW1 hs1 hg
  go_enter Try.func7, Try.ntmps7
  go_wp2_with fail
  rw [HG.out]
  refine C1.out.mono ?_
  rintro e w2 ⟨rfl, hb2⟩
  have HB2 := Lib.hid (trans3 HB1.out hb2)
  have h2 := H1.out.below hb2
  have C2 := Lib.hid (look2 w2 g h2)
  have H2 := Lib.hid h2
  clear h2 hb2 C1 H1 HB1
  go_wp2_with fail
  refine C2.out.mono ?_
  rintro e w3 ⟨rfl, hb3⟩
  have HB3 := Lib.hid (trans3 HB2.out hb3)
  have C3 := Lib.hid (look1 w3 g 3 5 (H2.out.below hb3) e3)
  clear hb3 C2 H2 HB2
  go_wp2_with fail
  refine C3.out.mono ?_
  rintro e w4 ⟨rfl, hb4⟩
  have HB4 := Lib.hid (trans3 HB3.out hb4)
  have C4 := Lib.hid (idle1 w4)
  clear hb4 C3 HB3
  go_wp2_with fail
  refine C4.out.mono ?_
  rintro e w5 ⟨rfl, hb5⟩
  have HB5 := Lib.hid (trans3 HB4.out hb5)
  have C5 := Lib.hid (wait1 w5)
  clear hb5 C4 HB4
  go_wp2_with fail
  refine C5.out.mono ?_
  rintro e w6 ⟨rfl, hb6⟩
  have HB6 := Lib.hid (trans3 HB5.out hb6)
  have C6 := Lib.hid (check_nil w6)
  clear hb6 C5 HB5
  go_wp2_with (first | (go_at_call 28; (with_reducible refine C6.out.mono ?_); rintro e w7 ⟨rfl, rfl⟩))
  go_ret
  exact ⟨rfl, HB6.out⟩
end Go.Proofs.Ytpflimnngilhnaa.au
