/- Whatever comes and goes: the law ModelDoes answers true. No condition. -/
import Derived.Test.YtajmmglfdinahaaMoD
import Derived.Test.YtajmmglfdinahaaGrids
import Derived.Test.YtajmmglfdinahaaIntR
import Derived.Deep.RegionHeld3
import Derived.Deep.DrawnRows
namespace Go.Proofs.Ytajmmglfdinahaa.modelDoes
open Go.ChangeShapes Go.WideShapes Go.ChangeAt Go.RowKit Go.Proofs.Ytajmmglfdinahaa.mo
set_option linter.unusedVariables false
set_option linter.unusedSimpArgs false
theorem keepc {w w' : World} {B i : Nat} {v : Value} (h : w.cell? ⟨B, i, none⟩ = some v) (hb : Below w.heap.size w w') : w'.cell? ⟨B, i, none⟩ = some v := (hb.cell (p := ⟨B, i, none⟩) (World.block_lt_of_cell? w _ h)).trans h
theorem btr {B : Nat} {w w1 w2 : World} (h1 : Below B w w1) (h2 : Below w1.heap.size w1 w2) (hB : B ≤ w.heap.size := by first | omega | exact Nat.le_refl _) : Below B w w2 := h1.trans (h2.mono (Nat.le_trans hB h1.size))
theorem cell_mid (H : Array Obj) (o : Obj) (a : Value) (t : Nat) (w : World) (h : w.heap = (H.push (.cells #[a] t (0, 0))).push o) : w.cell? ⟨H.size, 0, none⟩ = some a := by
  have hh : w.heap[H.size]? = some (.cells #[a] t (0, 0)) := by rw [h]; simp [Array.getElem?_push]
  simp [World.cell?, hh]
theorem heap_top (H : Array Obj) (o o' : Obj) (w : World) (h : w.heap = (H.push o').push o) : w.heap[H.size + 1]? = some o := by rw [h, show H.size + 1 = (H.push o').size by simp, Array.getElem?_push_size]
theorem heap_mid (H : Array Obj) (o o' : Obj) (w : World) (h : w.heap = (H.push o').push o) : w.heap[H.size]? = some o' := by rw [h]; simp [Array.getElem?_push]
theorem last_of (l : List Int) : l = [] ∨ ∃ xs x, l = xs ++ [x] := by
  rcases List.eq_nil_or_concat l with h | ⟨xs, x, h⟩
  · exact .inl h
  · exact .inr ⟨xs, x, by simpa using h⟩
/-- The list that is kept beside the deque: a slice of a block that is neither the deque's nor its row's. -/
structure Mv (w : World) (M : Nat) (v : Value) (ad : Option Addr) (cp : Nat) (st : List Int) : Prop where
  nil : ad = none → st = [] ∧ cp = 0
  le : st.length ≤ cp
  mx : cp ≤ maxLen
  at_ : ∀ a, ad = some a → ∃ b off, a = ⟨b, off, none⟩ ∧ b < w.heap.size ∧ b ≠ M ∧ v.ownBlock ≠ some b ∧ ∀ i, i < st.length → w.cell? ⟨b, off + i, none⟩ = some (.int .i64 (st.getD i 0))
section
variable {w w' : World} {M B : Nat} {v v' : Value} {ad : Option Addr} {cp T : Nat} {st : List Int}
theorem Mv.zero (w : World) (M : Nat) (v : Value) : Mv w M v none 0 [] := ⟨fun _ => ⟨rfl, rfl⟩, Nat.le_refl _, by simp [maxLen], fun a h => by cases h⟩
theorem Mv.view (h : Mv w M v ad cp st) (hT : st.length = T) : View w (.slice ad T cp) st := by
  subst hT
  refine ⟨ad, cp, rfl, ⟨h.le, h.mx⟩, fun e => ⟨by rw [(h.nil e).1]; rfl, (h.nil e).2⟩, fun hne => ?_⟩
  cases ad with
  | none => exact absurd (h.nil rfl).1 hne
  | some a =>
    obtain ⟨b, off, rfl, hb, _, _, hc⟩ := h.at_ a rfl
    exact ⟨b, off, rfl, hb, h.le, hc⟩
theorem Mv.keep (h : Mv w M v ad cp st) (hk : KM M v w w') (hn : NB v v' w) : Mv w' M v' ad cp st :=
  ⟨h.nil, h.le, h.mx, fun a e => by
    obtain ⟨b, off, rfl, hb, hM, hv, hc⟩ := h.at_ a e
    refine ⟨b, off, rfl, Nat.lt_of_lt_of_le hb hk.1, hM, ?_, fun i hi => (cell_heap (hk.2 b hb hM hv)).trans (hc i hi)⟩
    rcases hn with e | e | ⟨q, e, hq⟩
    · rw [e]; exact hv
    · rw [e]; simp
    · rw [e]; simp; omega⟩
theorem Mv.below (h : Mv w M v ad cp st) (hb : Below w.heap.size w w') : Mv w' M v ad cp st :=
  h.keep ⟨hb.size, fun k hk _ _ => hb.block k hk⟩ (.inl rfl)
theorem Mv.own (h : OI w B (.slice ad T cp) st) (hM : M < B) (hv : ∀ k, v.ownBlock = some k → k < B) : Mv w M v ad cp st := by
  obtain ⟨a, c, e, hn, hm, hl, hs⟩ := OI.form h
  rw [Value.slice.injEq] at e
  obtain ⟨rfl, rfl, rfl⟩ := e
  refine ⟨hn, hl, hm, fun q e => ?_⟩
  obtain ⟨g, rfl, hg, hB, hc⟩ := hs q e
  exact ⟨g, 0, rfl, hg, by omega, fun e => by have := hv g e; omega, hc⟩
theorem Mv.pop {xs : List Int} {x : Int} (h : Mv w M v ad cp (xs ++ [x])) : ∃ b off, ad = some ⟨b, off, none⟩ ∧ b < w.heap.size ∧ w.cell? ⟨b, off + xs.length, none⟩ = some (.int .i64 x) ∧ xs.length + 1 ≤ cp ∧ Mv w M v ad cp xs := by
  have hl := h.le
  simp at hl
  cases ad with
  | none => have := (h.nil rfl).1; simp at this
  | some a =>
    obtain ⟨b, off, rfl, hb, hM, hv, hc⟩ := h.at_ a rfl
    refine ⟨b, off, rfl, hb, by simpa using hc xs.length (by simp), hl, (fun e => by cases e), by omega, h.mx, fun a e => ?_⟩
    cases e
    refine ⟨b, off, rfl, hb, hM, hv, fun i hi => ?_⟩
    rw [hc i (by simp; omega), List.getD_eq_getElem?_getD, List.getElem?_append_left hi, ← List.getD_eq_getElem?_getD]
theorem Mv.steal {xs : List Int} {x : Int} (h : Mv w M v ad cp (x :: xs)) : ∃ b off, ad = some ⟨b, off, none⟩ ∧ b < w.heap.size ∧ w.cell? ⟨b, off, none⟩ = some (.int .i64 x) ∧ xs.length + 1 ≤ cp ∧ Mv w M v (some ⟨b, off + 1, none⟩) (cp - 1) xs := by
  have hl := h.le
  have hm := h.mx
  simp at hl
  cases ad with
  | none => have := (h.nil rfl).1; simp at this
  | some a =>
    obtain ⟨b, off, rfl, hb, hM, hv, hc⟩ := h.at_ a rfl
    refine ⟨b, off, rfl, hb, by simpa using hc 0 (by simp), hl, (fun e => by cases e), by omega, by omega, fun a e => ?_⟩
    cases e
    refine ⟨b, off + 1, rfl, hb, hM, hv, fun i hi => ?_⟩
    have := hc (i + 1) (by simp; omega)
    rw [show off + 1 + i = off + (i + 1) by omega, this]
    simp
end
set_option maxRecDepth 20000 in
set_option maxHeartbeats 4000000 in
theorem core (a0 m1 mx : Int) (a1 : Option Addr) (len cap : Nat) (z : Nat → Nat → Int) (w : World) (hmx : min (max a0 0) 1000 = mx) (hm1 : max a0 0 = m1) (hl : len ≤ 200)
    (hz : ∀ k, k < len → ∃ b off, a1 = some ⟨b, off, none⟩ ∧ b < w.heap.size ∧ w.cell? ⟨b, off + k * 2, none⟩ = some (.int .i64 (z k 0)) ∧ w.cell? ⟨b, off + k * 2 + 1, none⟩ = some (.int .i64 (z k 1))) :
    Calls Try.prog 4 #[.int .i64 a0, .slice a1 len cap] w fun e w' => e = .returned (.bool true) ∧ Below w.heap.size w w' := by
  have hd5 : decide (200 < len) = false := by simp; omega
  have hd6 : ¬ (200 : Int) < (len : Int) := by omega
  have hg1 : (if a0 < 0 then (0 : Int) else a0) = m1 := by split <;> omega
  have hg2 : (if 1000 < m1 then (1000 : Int) else m1) = mx := by split <;> omega
  have hm0 : 0 ≤ mx := by omega
  have HZ := Lib.hid hz
  have HMX := Lib.hid hmx
  clear hz hmx hm1
  go_enter Try.func4, Try.ntmps4
  go_wp2_with fail
  refine (works14 w).mono ?_
  rintro e w1 ⟨rfl, hb1⟩
  have hs1 := hb1.size
  have HB1 := Lib.hid hb1
  clear hb1
  go_wp2_with fail
  refine (new_of a0 w.heap.size w1 hs1).mono ?_
  rintro e w2 ⟨rfl, hm, hb2⟩
  rw [HMX.out] at hm
  obtain ⟨M, hM⟩ : ∃ M, w1.heap.size = M := ⟨_, rfl⟩
  have HB2 : Hid (Below w.heap.size w w2) := Lib.hid (HB1.out.trans (hb2.mono hs1))
  rw [hM] at hm hs1 ⊢
  have HM := Lib.hid hm
  clear hm hb2 hM HB1
  go_wp2_with fail
  go_loopw [7, 8] (fun sv i wr => ∃ (k T : Nat) (st : List Int) (v : Value) (ad : Option Addr) (cp : Nat), k ≤ len ∧ T ≤ k ∧ st.length = T ∧ (T : Int) ≤ mx ∧ sv = .slice ad T cp ∧ i = .int .i64 (k : Int) ∧ Hid (MS w.heap.size M wr mx v st) ∧ Hid (Mv wr M v ad cp st) ∧ Hid (Below w.heap.size w wr)) (fun _ i _ => len - (intOf i).toNat)
  case atStart => exact ⟨0, 0, [], _, none, 0, by omega, by omega, rfl, by omega, rfl, rfl, HM, Lib.hid (Mv.zero _ _ _), HB2⟩
  case round =>
    clear HM HB2
    obtain ⟨k, T, st, v, ad, cp, hk, hTk, hT, hTm, rfl, rfl, HM, HV, HB⟩ := hrel
    by_cases hlt : k < len
    · obtain ⟨b, off, rfl, hbl, k0, k1⟩ := HZ.out k hlt
      replace k0 := (HB.out.cell (p := ⟨b, off + k * 2, none⟩) hbl).trans k0
      replace k1 := (HB.out.cell (p := ⟨b, off + k * 2 + 1, none⟩) hbl).trans k1
      have hbl2 : b < wr.heap.size := Nat.lt_of_lt_of_le hbl HB.out.size
      generalize z k 0 = y at *
      generalize z k 1 = x at *
      by_cases hy2 : y = 2
      · subst hy2
        clear k1
        rcases last_of st with rfl | ⟨xs, u, rfl⟩
        · obtain rfl : T = 0 := by simpa using hT.symm
          go_wp2_with fail
          refine (pop_no _ M mx _ wr HM.out).mono ?_
          rintro e w5 ⟨rfl, rfl⟩
          go_wp2_with fail
          refine (len_of _ M mx _ ([]) (0) w5 HM.out (Lib.hid rfl)).mono ?_
          rintro e w8 ⟨rfl, rfl⟩
          go_wp2_with fail
          refine (all_of _ M mx _ ([]) w8 HM.out (by omega)).mono ?_
          rintro e w9 ⟨v9, rfl, hr9, hb9⟩
          have HM9 := Lib.hid (HM.out.below hb9)
          have HV9 := Lib.hid (HV.out.below hb9)
          have HB9 := Lib.hid (HB.out.trans (hb9.mono HB.out.size))
          have V9 := Lib.hid (view_of_own hr9)
          clear hr9 hb9 HM HV HB
          go_wp2_with fail
          refine (ints_any _ _ _ _ w9 V9.out (HV9.out.view rfl)).mono ?_
          rintro e wA ⟨rfl, nA, rfl⟩
          rw [beq_self_eq_true]
          have hbA : Below w9.heap.size w9 (w9.drewN nA) := below_drewN (Below.refl _ _) nA
          obtain ⟨wA, hwA⟩ : ∃ wA, w9.drewN nA = wA := ⟨_, rfl⟩
          rw [hwA] at hbA ⊢
          have HMA := Lib.hid (HM9.out.below hbA)
          have HVA := Lib.hid (HV9.out.below hbA)
          have HBA := Lib.hid (HB9.out.trans (hbA.mono HB9.out.size))
          clear hwA hbA V9 HM9 HV9 HB9
          go_wp2_with fail
          go_roundw
          case rel => exact ⟨k + 1, 0, [], v, ad, cp, by omega, by omega, rfl, by omega, rfl, by go_num, HMA, HVA, HBA⟩
          case measure => simp [intOf]; omega
        · obtain ⟨bm, om, rfl, hbm, hc, hcp, hv'⟩ := HV.out.pop
          obtain ⟨T', hT'⟩ : ∃ T', xs.length = T' := ⟨_, rfl⟩
          have hTT : T' + 1 = T := by rw [← hT, ← hT']; simp
          rw [hT'] at hc hcp
          have HX := Lib.hid hv'
          have hw0 : (T : Int) - 1 = (T' : Int) := by omega
          have hw1 : IntKind.i64.wrap ((T : Int) - 1) = (T' : Int) := by rw [IntKind.wrap_i64]; omega
          have hw2 : IntKind.i64.wrap (T' : Int) = (T' : Int) := by rw [IntKind.wrap_i64]; omega
          have hg3 : decide ((0 : Int) < (T : Int)) = true := by simp; omega
          have hg4 : (0 : Int) < (T : Int) := by omega
          have hg5 : (T' : Int) < (T : Int) := by omega
          have hg6 : (T' : Int) ≤ (cp : Int) := by omega
          have hg7 : ¬ (T' : Int) < 0 := by omega
          clear hv' HV
          go_wp2_with fail
          refine (pop_yes _ M mx _ xs u wr HM.out (by omega)).mono ?_
          rintro e w5 ⟨rfl, v5, hm5, hb5, hk5, hn5⟩
          have hvx := HX.out.keep hk5 hn5
          replace hc : w5.cell? ⟨bm, om + T', none⟩ = some (.int .i64 u) := by
            obtain ⟨b', o', e, _, h1, h2, _⟩ := HX.out.at_ _ rfl
            cases e
            exact (cell_heap (hk5.2 _ hbm h1 h2)).trans hc
          have hbm5 : bm < w5.heap.size := Nat.lt_of_lt_of_le hbm hk5.1
          have HM5 := Lib.hid hm5
          have HV5 := Lib.hid hvx
          have HB5 := Lib.hid (HB.out.trans hb5)
          clear hm5 hvx hb5 hk5 hn5 HX HM HB
          go_wp2_with fail
          refine (len_of _ M mx _ (xs) (T') w5 HM5.out (Lib.hid hT')).mono ?_
          rintro e w8 ⟨rfl, rfl⟩
          go_wp2_with fail
          refine (all_of _ M mx _ (xs) w8 HM5.out (by omega)).mono ?_
          rintro e w9 ⟨v9, rfl, hr9, hb9⟩
          have HM9 := Lib.hid (HM5.out.below hb9)
          have HV9 := Lib.hid (HV5.out.below hb9)
          have HB9 := Lib.hid (HB5.out.trans (hb9.mono HB5.out.size))
          have V9 := Lib.hid (view_of_own hr9)
          clear hr9 hb9 HM5 HV5 HB5
          go_wp2_with fail
          refine (ints_any _ _ _ _ w9 V9.out (HV9.out.view hT')).mono ?_
          rintro e wA ⟨rfl, nA, rfl⟩
          rw [beq_self_eq_true]
          have hbA : Below w9.heap.size w9 (w9.drewN nA) := below_drewN (Below.refl _ _) nA
          obtain ⟨wA, hwA⟩ : ∃ wA, w9.drewN nA = wA := ⟨_, rfl⟩
          rw [hwA] at hbA ⊢
          have HMA := Lib.hid (HM9.out.below hbA)
          have HVA := Lib.hid (HV9.out.below hbA)
          have HBA := Lib.hid (HB9.out.trans (hbA.mono HB9.out.size))
          clear hwA hbA V9 HM9 HV9 HB9
          go_wp2_with fail
          go_roundw
          case rel => exact ⟨k + 1, T', xs, v5, _, cp, by omega, by omega, hT', by omega, rfl, by go_num, HMA, HVA, HBA⟩
          case measure => simp [intOf]; omega
      · by_cases hy3 : y = 3
        · subst hy3
          clear k1
          rcases hst : st with _ | ⟨u, xs⟩
          · subst hst
            obtain rfl : T = 0 := by simpa using hT.symm
            go_wp2_with fail
            refine (steal_no _ M mx _ wr HM.out).mono ?_
            rintro e w5 ⟨rfl, rfl⟩
            go_wp2_with fail
            refine (len_of _ M mx _ ([]) (0) w5 HM.out (Lib.hid rfl)).mono ?_
            rintro e w8 ⟨rfl, rfl⟩
            go_wp2_with fail
            refine (all_of _ M mx _ ([]) w8 HM.out (by omega)).mono ?_
            rintro e w9 ⟨v9, rfl, hr9, hb9⟩
            have HM9 := Lib.hid (HM.out.below hb9)
            have HV9 := Lib.hid (HV.out.below hb9)
            have HB9 := Lib.hid (HB.out.trans (hb9.mono HB.out.size))
            have V9 := Lib.hid (view_of_own hr9)
            clear hr9 hb9 HM HV HB
            go_wp2_with fail
            refine (ints_any _ _ _ _ w9 V9.out (HV9.out.view rfl)).mono ?_
            rintro e wA ⟨rfl, nA, rfl⟩
            rw [beq_self_eq_true]
            have hbA : Below w9.heap.size w9 (w9.drewN nA) := below_drewN (Below.refl _ _) nA
            obtain ⟨wA, hwA⟩ : ∃ wA, w9.drewN nA = wA := ⟨_, rfl⟩
            rw [hwA] at hbA ⊢
            have HMA := Lib.hid (HM9.out.below hbA)
            have HVA := Lib.hid (HV9.out.below hbA)
            have HBA := Lib.hid (HB9.out.trans (hbA.mono HB9.out.size))
            clear hwA hbA V9 HM9 HV9 HB9
            go_wp2_with fail
            go_roundw
            case rel => exact ⟨k + 1, 0, [], v, ad, cp, by omega, by omega, rfl, by omega, rfl, by go_num, HMA, HVA, HBA⟩
            case measure => simp [intOf]; omega
          · subst hst
            obtain ⟨bm, om, rfl, hbm, hc, hcp, hv'⟩ := HV.out.steal
            obtain ⟨T', hT'⟩ : ∃ T', xs.length = T' := ⟨_, rfl⟩
            have hTT : T' + 1 = T := by rw [← hT, ← hT']; simp
            rw [hT'] at hcp
            have HX := Lib.hid hv'
            by_cases hcp1 : cp = 1
            · subst hcp1
              obtain rfl : T' = 0 := by omega
              obtain rfl : T = 1 := by omega
              obtain rfl : xs = [] := List.eq_nil_of_length_eq_zero hT'
              clear hv' HV
              go_wp2_with fail
              refine (steal_yes _ M mx _ [] u wr HM.out (by omega)).mono ?_
              rintro e w5 ⟨rfl, v5, hm5, hb5, hk5, hn5⟩
              have hvx : Mv w5 M v5 (some ⟨bm, om, none⟩) 0 [] := ⟨fun e => (by cases e), Nat.le_refl _, Nat.zero_le _, fun a e => by
                cases e
                obtain ⟨b', o', e, h0, h1, h2, h3⟩ := (HX.out.keep hk5 hn5).at_ _ rfl
                cases e
                exact ⟨_, om, rfl, h0, h1, h2, fun i hi => absurd hi (Nat.not_lt_zero _)⟩⟩
              replace hc : w5.cell? ⟨bm, om, none⟩ = some (.int .i64 u) := by
                obtain ⟨b', o', e, _, h1, h2, _⟩ := HX.out.at_ _ rfl
                cases e
                exact (cell_heap (hk5.2 _ hbm h1 h2)).trans hc
              have hbm5 : bm < w5.heap.size := Nat.lt_of_lt_of_le hbm hk5.1
              have HM5 := Lib.hid hm5
              have HV5 := Lib.hid hvx
              have HB5 := Lib.hid (HB.out.trans hb5)
              clear hm5 hvx hb5 hk5 hn5 HX HM HB
              go_wp2_with fail
              refine (len_of _ M mx _ ([]) (0) w5 HM5.out (Lib.hid rfl)).mono ?_
              rintro e w8 ⟨rfl, rfl⟩
              go_wp2_with fail
              refine (all_of _ M mx _ ([]) w8 HM5.out (by omega)).mono ?_
              rintro e w9 ⟨v9, rfl, hr9, hb9⟩
              have HM9 := Lib.hid (HM5.out.below hb9)
              have HV9 := Lib.hid (HV5.out.below hb9)
              have HB9 := Lib.hid (HB5.out.trans (hb9.mono HB5.out.size))
              have V9 := Lib.hid (view_of_own hr9)
              clear hr9 hb9 HM5 HV5 HB5
              go_wp2_with fail
              refine (ints_any _ _ _ _ w9 V9.out (HV9.out.view rfl)).mono ?_
              rintro e wA ⟨rfl, nA, rfl⟩
              rw [beq_self_eq_true]
              have hbA : Below w9.heap.size w9 (w9.drewN nA) := below_drewN (Below.refl _ _) nA
              obtain ⟨wA, hwA⟩ : ∃ wA, w9.drewN nA = wA := ⟨_, rfl⟩
              rw [hwA] at hbA ⊢
              have HMA := Lib.hid (HM9.out.below hbA)
              have HVA := Lib.hid (HV9.out.below hbA)
              have HBA := Lib.hid (HB9.out.trans (hbA.mono HB9.out.size))
              clear hwA hbA V9 HM9 HV9 HB9
              go_wp2_with fail
              go_roundw
              case rel => exact ⟨k + 1, 0, [], v5, _, _, by omega, by omega, rfl, by omega, rfl, by go_num, HMA, HVA, HBA⟩
              case measure => simp [intOf]; omega
            · have hT2 : xs.length = T - 1 := by omega
              have hcp2 : ¬ (cp : Int) = 1 := by omega
              have hg3 : decide ((0 : Int) < (T : Int)) = true := by simp; omega
              have hg4 : (0 : Int) < (T : Int) := by omega
              have hg5 : (1 : Int) ≤ (T : Int) := by omega
              have hg6 : (1 : Int) ≤ (cp : Int) := by omega
              have hg7 : 1 ≤ T := by omega
              have hg8 : 1 ≤ cp := by omega
              clear hv' HV
              go_wp2_with fail
              refine (steal_yes _ M mx _ xs u wr HM.out (by omega)).mono ?_
              rintro e w5 ⟨rfl, v5, hm5, hb5, hk5, hn5⟩
              have hvx := HX.out.keep hk5 hn5
              replace hc : w5.cell? ⟨bm, om, none⟩ = some (.int .i64 u) := by
                obtain ⟨b', o', e, _, h1, h2, _⟩ := HX.out.at_ _ rfl
                cases e
                exact (cell_heap (hk5.2 _ hbm h1 h2)).trans hc
              have hbm5 : bm < w5.heap.size := Nat.lt_of_lt_of_le hbm hk5.1
              have HM5 := Lib.hid hm5
              have HV5 := Lib.hid hvx
              have HB5 := Lib.hid (HB.out.trans hb5)
              clear hm5 hvx hb5 hk5 hn5 HX HM HB
              go_wp2_with fail
              refine (len_of _ M mx _ (xs) (T - 1) w5 HM5.out (Lib.hid hT2)).mono ?_
              rintro e w8 ⟨rfl, rfl⟩
              go_wp2_with fail
              refine (all_of _ M mx _ (xs) w8 HM5.out (by omega)).mono ?_
              rintro e w9 ⟨v9, rfl, hr9, hb9⟩
              have HM9 := Lib.hid (HM5.out.below hb9)
              have HV9 := Lib.hid (HV5.out.below hb9)
              have HB9 := Lib.hid (HB5.out.trans (hb9.mono HB5.out.size))
              have V9 := Lib.hid (view_of_own hr9)
              clear hr9 hb9 HM5 HV5 HB5
              go_wp2_with fail
              refine (ints_any _ _ _ _ w9 V9.out (HV9.out.view hT2)).mono ?_
              rintro e wA ⟨rfl, nA, rfl⟩
              rw [beq_self_eq_true]
              have hbA : Below w9.heap.size w9 (w9.drewN nA) := below_drewN (Below.refl _ _) nA
              obtain ⟨wA, hwA⟩ : ∃ wA, w9.drewN nA = wA := ⟨_, rfl⟩
              rw [hwA] at hbA ⊢
              have HMA := Lib.hid (HM9.out.below hbA)
              have HVA := Lib.hid (HV9.out.below hbA)
              have HBA := Lib.hid (HB9.out.trans (hbA.mono HB9.out.size))
              clear hwA hbA V9 HM9 HV9 HB9
              go_wp2_with fail
              go_roundw
              case rel => exact ⟨k + 1, T - 1, xs, v5, _, _, by omega, by omega, hT2, by omega, rfl, by go_num, HMA, HVA, HBA⟩
              case measure => simp [intOf]; omega
        · by_cases hfl : (T : Int) < mx
          · have hfd : decide ((T : Int) < mx) = true := by simp; omega
            go_wp2_with fail
            refine (push_yes _ M mx _ st x wr HM.out (by omega) (by omega)).mono ?_
            rintro e wx ⟨rfl, v5, hm5, hb5, hk5, hn5⟩
            have hvx := HV.out.keep hk5 hn5
            have z9 : wx.cell? ⟨b, off + k * 2 + 1, none⟩ = some (.int .i64 x) := by
              have h0 := (hb5.cell (p := ⟨b, off + k * 2 + 1, none⟩) hbl).trans k1
              exact h0
            have HM5 := Lib.hid hm5
            have HV5 := Lib.hid hvx
            have HB5 := Lib.hid (HB.out.trans hb5)
            have hbl9 : b < wx.heap.size := Nat.lt_of_lt_of_le hbl2 hk5.1
            have HV : Hid (View wx (.slice ad T cp) st) := Lib.hid (hvx.view hT)
            clear hm5 hvx hb5 hk5 hn5 HM HB k1 k0
            go_wp2_with fail
            have HK : Hid (∀ w', Below wx.heap.size wx w' → Below wx.heap.size wx w' ∧ w'.cell? ⟨b, off + k * 2 + 1, none⟩ = some (.int .i64 x)) := Lib.hid fun w' hb => ⟨hb, keepc z9 hb⟩
            clear z9
            go_region_held3 (fun w' => Below wx.heap.size wx w' ∧ w'.cell? ⟨b, off + k * 2 + 1, none⟩ = some (.int .i64 x))
              (first | (with_reducible assumption) | exact HK.out _ (Below.refl _ _) | exact HK.out _ hb7 | exact HK.out _ hb6 | (refine HK.out _ ?_; go_grown; done) | (refine HK.out _ (btr hb6 ?_); go_grown; done))
              (first
                | ((refine step_copyI rfl _ _ (by rfl) wx.heap.size wx.heap.size (.slice ad T cp) st ?_ ?_ ?_ ?_ ?_ T hT ?_ ?_); (focus rfl); (focus rfl); (focus (first | exact heap_alloc_new _ _ | exact heap_top wx.heap _ _ _ rfl | exact heap_mid wx.heap _ _ _ rfl)); (focus omega); (focus exact (HV.out.below (by go_grown))); (focus omega); intro ad2 cp2 w6 ho6 hg6; have hb6 : Below wx.heap.size wx w6 := Below.grown (show Below wx.heap.size wx _ by go_grown) hg6 (by simp <;> omega) (by intro k hk; cases hk; omega); (refine (have hx6 : w6.cell? ⟨wx.heap.size + 1, 0, none⟩ = some (.int .i64 x) := (hg6.cell_far _ ?_ ?_).trans ?_; ?_)); (focus (simp <;> omega)); (focus (simp <;> omega)); (focus (go_simp; done)))
                | ((refine step_copyI rfl _ _ (by rfl) wx.heap.size wx.heap.size (.slice ad T cp) st ?_ ?_ ?_ ?_ ?_ T hT ?_ ?_); (focus rfl); (focus rfl); (focus (first | exact heap_alloc_new _ _ | exact heap_top wx.heap _ _ _ rfl | exact heap_mid wx.heap _ _ _ rfl)); (focus omega); (focus exact (HV.out.below (by go_grown))); (focus omega); intro ad2 cp2 w6 ho6 hg6; have hb6 : Below wx.heap.size wx w6 := Below.grown (show Below wx.heap.size wx _ by go_grown) hg6 (by simp <;> omega) (by intro k hk; cases hk; omega))
                | ((refine step_oneI rfl _ _ (by rfl) wx.heap.size (.slice ad2 T cp2) st (wx.heap.size + 1) 1 x ?_ ?_ ?_ ?_ (T + 1) ?_ ?_ ?_ ?_); (focus rfl); (focus rfl); (focus first | exact ho6 | exact Lib.hid (OI.below ho6.out (by go_grown))); (focus exact keepc hx6 (by go_grown)); (focus omega); (focus omega); (focus (have := hb6.size; simp; omega)); intro ad3 cp3 w7 ho7 hg7; have hb7 : Below wx.heap.size wx w7 := Below.grown (btr hb6 (by go_grown)) hg7 (by have := hb6.size; simp; omega) (fun k hk => (World.ownsRow.lt ho6.out k hk).1))
                | ((refine step_oneI rfl _ _ (by rfl) wx.heap.size (.slice ad2 T cp2) st wx.heap.size 1 x ?_ ?_ ?_ ?_ (T + 1) ?_ ?_ ?_ ?_); (focus rfl); (focus rfl); (focus first | exact ho6 | exact Lib.hid (OI.below ho6.out (by go_grown))); (focus exact keepc hx6 (by go_grown)); (focus omega); (focus omega); (focus (have := hb6.size; simp; omega)); intro ad3 cp3 w7 ho7 hg7; have hb7 : Below wx.heap.size wx w7 := Below.grown (btr hb6 (by go_grown)) hg7 (by have := hb6.size; simp; omega) (fun k hk => (World.ownsRow.lt ho6.out k hk).1))
                | ((refine step_oneI rfl _ _ (by rfl) wx.heap.size (.slice ad2 T cp2) st w6.heap.size 1 x ?_ ?_ ?_ ?_ (T + 1) ?_ ?_ ?_ ?_); (focus rfl); (focus rfl); (focus first | exact ho6 | exact Lib.hid (OI.below ho6.out (by go_grown))); (focus first | exact cell_mid wx.heap _ _ _ _ rfl | (go_simp; done)); (focus omega); (focus omega); (focus (have := hb6.size; simp; omega)); intro ad3 cp3 w7 ho7 hg7; have hb7 : Below wx.heap.size wx w7 := Below.grown (btr hb6 (by go_grown)) hg7 (by have := hb6.size; simp; omega) (fun k hk => (World.ownsRow.lt ho6.out k hk).1))
                | ((refine step_copyI rfl _ _ (by rfl) (wx.heap.size + 1) wx.heap.size (.slice ad T cp) st ?_ ?_ ?_ ?_ ?_ T hT ?_ ?_); (focus rfl); (focus rfl); (focus (first | exact heap_alloc_new _ _ | exact heap_top wx.heap _ _ _ rfl | exact heap_mid wx.heap _ _ _ rfl)); (focus omega); (focus exact (HV.out.below (by go_grown))); (focus omega); intro ad2 cp2 w6 ho6 hg6; have hb6 : Below wx.heap.size wx w6 := Below.grown (show Below wx.heap.size wx _ by go_grown) hg6 (by simp <;> omega) (by intro k hk; cases hk; omega); (refine (have hx6 : w6.cell? ⟨wx.heap.size, 0, none⟩ = some (.int .i64 x) := (hg6.cell_far _ ?_ ?_).trans ?_; ?_)); (focus (simp <;> omega)); (focus (simp <;> omega)); (focus (go_simp; done))))
            all_goals
              have hz7 := OI.base ho7.out (Nat.le_refl _)
              have HV7 := Lib.hid (Mv.own (M := M) (v := v5) ho7.out (by have := HM5.out.lt; omega) (fun q e => ((HM5.out.row).lt q e).2))
              have HM7 := Lib.hid (HM5.out.below hb7)
              have HB7 := Lib.hid (HB5.out.trans (hb7.mono HB5.out.size))
              have hL7 : (st ++ [x]).length = T + 1 := by simp; omega
              clear hz7 hb7 ho7 hg7 ho6 hg6 hb6 HV HM5 HV5 HB5 HK
              try clear hx6
              go_wp2_with fail
              refine (len_of _ M mx _ (st ++ [x]) (T + 1) w7 HM7.out (Lib.hid hL7)).mono ?_
              rintro e w8 ⟨rfl, rfl⟩
              go_wp2_with fail
              refine (all_of _ M mx _ (st ++ [x]) w8 HM7.out (by omega)).mono ?_
              rintro e w9 ⟨v9, rfl, hr9, hb9⟩
              have HM9 := Lib.hid (HM7.out.below hb9)
              have HV9 := Lib.hid (HV7.out.below hb9)
              have HB9 := Lib.hid (HB7.out.trans (hb9.mono HB7.out.size))
              have V9 := Lib.hid (view_of_own hr9)
              clear hr9 hb9 HM7 HV7 HB7
              go_wp2_with fail
              refine (ints_any _ _ _ _ w9 V9.out (HV9.out.view hL7)).mono ?_
              rintro e wA ⟨rfl, nA, rfl⟩
              rw [beq_self_eq_true]
              have hbA : Below w9.heap.size w9 (w9.drewN nA) := below_drewN (Below.refl _ _) nA
              obtain ⟨wA, hwA⟩ : ∃ wA, w9.drewN nA = wA := ⟨_, rfl⟩
              rw [hwA] at hbA ⊢
              have HMA := Lib.hid (HM9.out.below hbA)
              have HVA := Lib.hid (HV9.out.below hbA)
              have HBA := Lib.hid (HB9.out.trans (hbA.mono HB9.out.size))
              clear hwA hbA V9 HM9 HV9 HB9
              go_wp2_with fail
              go_roundw
              case rel => exact ⟨k + 1, T + 1, st ++ [x], v5, _, _, by omega, by omega, hL7, by omega, rfl, by go_num, HMA, HVA, HBA⟩
              case measure => simp [intOf]; omega
          · have hfd : decide ((T : Int) < mx) = false := by simp; omega
            go_wp2_with fail
            refine (push_no _ M mx _ st x wr HM.out (by omega)).mono ?_
            rintro e wq ⟨rfl, nq, rfl⟩
            have hbq : Below wr.heap.size wr (wr.drewN nq) := below_drewN (Below.refl _ _) nq
            obtain ⟨wq, hwq⟩ : ∃ wq, wr.drewN nq = wq := ⟨_, rfl⟩
            rw [hwq] at hbq ⊢
            have HMq := Lib.hid (HM.out.below hbq)
            have HVq := Lib.hid (HV.out.below hbq)
            have HBq := Lib.hid (HB.out.trans (hbq.mono HB.out.size))
            clear hwq hbq HM HV HB k1 k0
            go_wp2_with fail
            refine (len_of _ M mx _ (st) (T) wq HMq.out (Lib.hid hT)).mono ?_
            rintro e w8 ⟨rfl, rfl⟩
            go_wp2_with fail
            refine (all_of _ M mx _ (st) w8 HMq.out (by omega)).mono ?_
            rintro e w9 ⟨v9, rfl, hr9, hb9⟩
            have HM9 := Lib.hid (HMq.out.below hb9)
            have HV9 := Lib.hid (HVq.out.below hb9)
            have HB9 := Lib.hid (HBq.out.trans (hb9.mono HBq.out.size))
            have V9 := Lib.hid (view_of_own hr9)
            clear hr9 hb9 HMq HVq HBq
            go_wp2_with fail
            refine (ints_any _ _ _ _ w9 V9.out (HV9.out.view hT)).mono ?_
            rintro e wA ⟨rfl, nA, rfl⟩
            rw [beq_self_eq_true]
            have hbA : Below w9.heap.size w9 (w9.drewN nA) := below_drewN (Below.refl _ _) nA
            obtain ⟨wA, hwA⟩ : ∃ wA, w9.drewN nA = wA := ⟨_, rfl⟩
            rw [hwA] at hbA ⊢
            have HMA := Lib.hid (HM9.out.below hbA)
            have HVA := Lib.hid (HV9.out.below hbA)
            have HBA := Lib.hid (HB9.out.trans (hbA.mono HB9.out.size))
            clear hwA hbA V9 HM9 HV9 HB9
            go_wp2_with fail
            go_roundw
            case rel => exact ⟨k + 1, T, st, v, ad, cp, by omega, by omega, hT, by omega, rfl, by go_num, HMA, HVA, HBA⟩
            case measure => simp [intOf]; omega
    · obtain rfl : k = len := by omega
      go_wp2_with (first
        | (go_at_call 27; refine (pop_nil _).mono ?_; rintro e wx ⟨rfl, rfl⟩)
        | (go_at_call 28; refine (steal_nil _).mono ?_; rintro e wx ⟨rfl, rfl⟩))
      refine (push_nil 1 _).mono ?_
      rintro e wq ⟨rfl, nq, rfl⟩
      have hbq : Below wx.heap.size wx (wx.drewN nq) := below_drewN (Below.refl _ _) nq
      obtain ⟨wq, hwq⟩ : ∃ wq, wx.drewN nq = wq := ⟨_, rfl⟩
      rw [hwq] at hbq ⊢
      have HBq := Lib.hid (HB.out.trans (hbq.mono HB.out.size))
      clear hwq hbq HM HV HB
      go_wp2_with (first
        | (go_at_call 30; refine (len_nil _).mono ?_; rintro e wx ⟨rfl, rfl⟩))
      refine (all_nil _).mono ?_
      rintro e wz ⟨vz, rfl, hrz, hbz⟩
      obtain ⟨az, cz, rfl, _⟩ := OI.form hrz
      have HBz := Lib.hid (HBq.out.trans (hbz.mono HBq.out.size))
      clear hrz hbz HBq
      go_wp2_with fail
      go_ret
      exact ⟨rfl, HBz.out⟩
set_option maxRecDepth 20000 in
theorem walk (a0 : Int) (a1 : Option Addr) (len1 cap1 : Nat) (z1 : Nat → Nat → Int) (w : World) (w0 : (Lit.int .i64 a0).wf = true) (w1 : IsGrid [.i64, .i64] w a1 len1 cap1 z1) :
    Calls Try.prog 4 #[.int .i64 a0, .slice a1 len1 cap1] w fun e w' => e = .returned (.bool true) ∧ Below w.heap.size w w' := by
  by_cases hl : len1 ≤ 200
  · refine core a0 _ _ a1 len1 cap1 z1 w rfl rfl hl fun k hk => ?_
    rcases w1.split (by decide) with h | ⟨b, off, rfl, hb, hle, hm, hc⟩
    · omega
    · have c0 := hc k (by omega) 0 .i64 rfl
      have c1 := hc k (by omega) 1 .i64 rfl
      exact ⟨b, off, rfl, hb, c0.1, by rw [Nat.add_assoc]; exact c1.1⟩
  · have hd5 : decide (200 < len1) = true := by simp; omega
    have hd6 : (200 : Int) < (len1 : Int) := by omega
    clear w1
    go_enter Try.func4, Try.ntmps4
    go_wp2_with fail
    refine (works14 w).mono ?_
    rintro e wk ⟨rfl, hbk⟩
    go_wp2_with fail
    go_ret
    exact ⟨rfl, hbk⟩
end Go.Proofs.Ytajmmglfdinahaa.modelDoes
