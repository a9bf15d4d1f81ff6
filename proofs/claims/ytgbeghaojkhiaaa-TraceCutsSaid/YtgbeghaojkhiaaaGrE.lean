/- From which places edges lead to one (layer 33): the program. -/
import Derived.Test.YtgbeghaojkhiaaaGrD
import Derived.RegionTactic
import Derived.ChangeAlike
import Derived.StillTailTactics
import Derived.Deep.RegionLaw
namespace Go.Proofs.Ytgbeghaojkhiaaa.gr
open Go.ChangeShapes Go.WideShapes Go.ChangeAt Go.RowKit
open Go.Proofs.Ytgbeghaojkhiaaa.ro
set_option linter.unusedVariables false
set_option linter.unusedSimpArgs false
theorem infoPl : (Try.prog.info? 94).map (fun i => (i.zero, i.size, i.bytes)) = some (some (.agg #[.int .i64 0, .int .i64 0]), 2, 16) := by kernel_rfl
theorem or_one {w : World} {B : Nat} (p : Pl) (hB : B ≤ w.heap.size) : OR 2 enP (w.alloc (.cells #[.int .i64 (p.1 : Int), .int .i64 (p.2 : Int)] 94)) B 94 (.slice (some ⟨w.heap.size, 0, none⟩) 1 1) [p] :=
  ⟨rfl, .inr ⟨w.heap.size, 1, #[.int .i64 (p.1 : Int), .int .i64 (p.2 : Int)], rfl, hB, heap_new _ _, Nat.le_refl _, by decide, rfl, rfl⟩⟩
set_option maxHeartbeats 4000000 in
theorem ahead_of (v : Value) (L : List (List C2)) (p : Pl) (w : World) (h : PM w v L) (hp : In L p) (hL : Rts L) :
    Calls Try.prog 38 #[v, .agg #[.int .i64 p.1, .int .i64 p.2]] w fun e w' => ∃ a m c, e = .returned (.slice a m c) ∧ OR 2 enP w' w.heap.size 94 (.slice a m c) (ahd L p) ∧ Below w.heap.size w w' := by
  obtain ⟨i, k⟩ := p
  obtain ⟨hi, hk⟩ := hp
  simp only at hi hk
  obtain ⟨P, hP⟩ : ∃ P : Ending → World → Prop, (fun (e : Ending) (w' : World) => ∃ a m c, e = .returned (.slice a m c) ∧ OR 2 enP w' w.heap.size 94 (.slice a m c) (ahd L (i, k)) ∧ Below w.heap.size w w') = P := ⟨_, rfl⟩
  have HF : Hid (∀ a m c w', OR 2 enP w' w.heap.size 94 (.slice a m c) (ahd L (i, k)) → Below w.heap.size w w' → P (.returned (.slice a m c)) w') := Lib.hid (by intro a m c w' h1 h2; rw [← hP]; exact ⟨a, m, c, rfl, h1, h2⟩)
  simp only
  rw [hP]
  clear hP
  obtain ⟨a, c, rfl, h1, h2⟩ := h.form
  unfold maxLen at h2
  obtain ⟨W, hW⟩ : ∃ W, w.alloc (.cells #[.int .i64 (i : Int), .int .i64 (k : Int)] 94) = W := ⟨_, rfl⟩
  have hb : Below w.heap.size w W := by rw [← hW]; go_grown
  obtain ⟨b, o, ai, ci, rfl, hbl, c0, hrow⟩ := (h.below hb).row i hi
  have hrl := hrow.len
  have hm100 := (hL.r i hi).m
  unfold maxLen at hrl
  obtain ⟨b', o', rfl, hbl', d0, d1⟩ := RV.two hrow k (by omega)
  have hX : W.heap[w.heap.size]? = some (.cells #[.int .i64 (i : Int), .int .i64 (k : Int)] 94 (0, 0)) := by rw [← hW]; exact heap_new _ _
  obtain ⟨p0, p1⟩ := cel2 hX
  obtain ⟨m, hm⟩ : ∃ m, (L.getD i []).length = m := ⟨_, rfl⟩
  obtain ⟨n, hn⟩ : ∃ n, L.length = n := ⟨_, rfl⟩
  obtain ⟨s1, hs1⟩ : ∃ s1, ((L.getD i []).getD k d2).1 = s1 := ⟨_, rfl⟩
  obtain ⟨x1, hx1⟩ : ∃ x1, ((L.getD i []).getD k d2).2 = x1 := ⟨_, rfl⟩
  rw [hs1] at d0
  rw [hx1] at d1
  rw [hm] at hk hrl c0 hm100
  have HN := Lib.hid hn
  have hn100 := hL.m
  rw [hn] at hi h1 hn100 ⊢
  have hbs : w.heap.size < W.heap.size := lt_of hX
  have hiI : (i : Int) < (n : Int) := by omega
  have hkI : (k : Int) < (m : Int) := by omega
  have HB := Lib.hid hb
  by_cases hk0 : k = 0
  · subst hk0
    by_cases hi0 : i = 0
    · subst hi0
      have HE : Hid (ahd L (0, 0) = []) := Lib.hid rfl
      rw [show ((0 : Nat) : Int) = 0 from rfl] at hW p0 p1
      have HF1 := HF.out none 0 0 W (by rw [HE.out]; exact OR.nil _ _ _) hb
      clear hX h hb hrow hm hn hs1 hx1 d1 d0 c0
      go_enter Try.func38, Try.ntmps38
      go_wp2_with fail
      all_goals first | exact HF1 | (go_ret; exact HF1)
    · have HE : Hid (ahd L (i, 0) = [(i - 1, 0)]) := Lib.hid (by unfold ahd; rw [if_pos rfl, if_neg hi0])
      obtain ⟨j, hj⟩ : ∃ j, i - 1 = j := ⟨_, rfl⟩
      rw [hj] at HE
      rw [show ((0 : Nat) : Int) = 0 from rfl] at hW p1
      have HF1 := HF.out (some ⟨W.heap.size, 0, none⟩) 1 1 (W.alloc (.cells #[.int .i64 (j : Int), .int .i64 0] 94)) (by rw [HE.out]; exact or_one (w := W) (j, 0) (by omega)) (tr3 hb (by go_grown))
      have q1 : ((i : Int) == 0) = false := by simpa using hi0
      have q1' : (i == 0) = false := by simpa using hi0
      have q2 : IntKind.i64.wrap ((i : Int) - 1) = (j : Int) := by rw [IntKind.wrap_i64]; omega
      have q3 : IntKind.i64.wrap (j : Int) = (j : Int) := by rw [IntKind.wrap_i64]; omega
      have HJ := Lib.hid hj
      clear hj
      have HF2 := Lib.hid HF1
      clear hX h hb hrow hm hn hs1 hx1 d1 d0 c0 HF1
      go_enter Try.func38, Try.ntmps38
      go_wp2_with fail
      all_goals first | exact HF2.out | (go_ret; exact HF2.out)
  obtain ⟨r, hr⟩ : ∃ r, k - 1 = r := ⟨_, rfl⟩
  have q1 : ((k : Int) == 0) = false := by simpa using hk0
  have q1' : (k == 0) = false := by simpa using hk0
  have q2 : IntKind.i64.wrap ((k : Int) - 1) = (r : Int) := by rw [IntKind.wrap_i64]; omega
  have q3 : IntKind.i64.wrap (r : Int) = (r : Int) := by rw [IntKind.wrap_i64]; omega
  have HRk := Lib.hid hr
  clear hr
  obtain ⟨W2, hW2⟩ : ∃ W2, W.alloc (.cells #[.int .i64 (i : Int), .int .i64 (r : Int)] 94) = W2 := ⟨_, rfl⟩
  have hb2 : Below W.heap.size W W2 := by rw [← hW2]; go_grown
  have HO2 : Hid (OR 2 enP W2 w.heap.size 94 (.slice (some ⟨W.heap.size, 0, none⟩) 1 1) [(i, r)]) := Lib.hid (by rw [← hW2]; exact or_one (i, r) (by omega))
  have HB2 := Lib.hid (tr3 hb hb2)
  have HPM := Lib.hid (h.below HB2.out)
  have p0' := (hb2.cell (p := ⟨w.heap.size, 0, none⟩) hbs).trans p0
  have p1' := (hb2.cell (p := ⟨w.heap.size, 1, none⟩) hbs).trans p1
  have c0' := (hb2.cell (p := ⟨b, o + i, none⟩) hbl).trans c0
  have d0' := (hb2.cell (p := ⟨b', o' + k * 2, none⟩) hbl').trans d0
  have d1' := (hb2.cell (p := ⟨b', o' + k * 2 + 1, none⟩) hbl').trans d1
  have HS : Hid (∀ w', Below W2.heap.size W2 w' → w'.cell? ⟨w.heap.size, 0, none⟩ = some (.int .i64 (i : Int)) ∧ w'.cell? ⟨w.heap.size, 1, none⟩ = some (.int .i64 (k : Int)) ∧ w'.cell? ⟨b, o + i, none⟩ = some (.slice (some ⟨b', o', none⟩) m ci) ∧ w'.cell? ⟨b', o' + k * 2, none⟩ = some (.int .i64 s1) ∧ w'.cell? ⟨b', o' + k * 2 + 1, none⟩ = some (.bool x1)) := Lib.hid (fun w' hb9 => ⟨(hb9.cell (p := ⟨w.heap.size, 0, none⟩) (Nat.lt_of_lt_of_le hbs hb2.size)).trans p0', (hb9.cell (p := ⟨w.heap.size, 1, none⟩) (Nat.lt_of_lt_of_le hbs hb2.size)).trans p1', (hb9.cell (p := ⟨b, o + i, none⟩) (Nat.lt_of_lt_of_le hbl hb2.size)).trans c0', (hb9.cell (p := ⟨b', o' + k * 2, none⟩) (Nat.lt_of_lt_of_le hbl' hb2.size)).trans d0', (hb9.cell (p := ⟨b', o' + k * 2 + 1, none⟩) (Nat.lt_of_lt_of_le hbl' hb2.size)).trans d1'⟩)
  have hz2 : W.heap.size < W2.heap.size := by rw [← hW2]; simp
  clear hX h hb hrow hm hn d1 d0 c0 hb2
  obtain ⟨W3, hW3⟩ : ∃ W3, (W2.alloc (.cells #[.int .i64 s1, .bool x1] 37)).drew = W3 := ⟨_, rfl⟩
  have hb3 : Below W2.heap.size W2 W3 := by rw [← hW3]; go_grown
  have hX3 : W3.heap[W2.heap.size]? = some (.cells #[.int .i64 s1, .bool x1] 37 (0, 0)) := by rw [← hW3]; exact heap_new W2 _
  have HW3 := Lib.hid hW3
  obtain ⟨e0, e1⟩ := cel2 hX3
  obtain ⟨g0, g1, g2, g3, g4⟩ := HS.out _ hb3
  have HB3 := Lib.hid (tr3 HB2.out hb3)
  have HO3 := Lib.hid (OR.below HO2.out hb3)
  have hz3 : W2.heap.size < W3.heap.size := lt_of hX3
  clear hX3 hW3
  by_cases hx : x1 = true ∧ 0 < i
  · obtain ⟨rfl, hi0⟩ := hx
    obtain ⟨j, hj⟩ : ∃ j, i - 1 = j := ⟨_, rfl⟩
    have hjl : j < L.length := by rw [HN.out]; omega
    obtain ⟨y, hy⟩ : ∃ y, upTo (L.getD j []) s1 (L.getD j []).length = y := ⟨_, rfl⟩
    have HE : Hid (ahd L (i, k) = [(i, r)] ++ [(j, y)]) := Lib.hid (by
      unfold ahd
      simp only
      rw [if_neg hk0, if_pos ⟨by unfold wt; simp only; exact hx1, hi0⟩, HRk.out, hj]
      unfold st
      simp only
      rw [hs1, hy]
      rfl)
    obtain ⟨b6, o6, a6, c6, e6, hbl6, f0, hrow6⟩ := PM.row (HPM.out.below hb3) j (by rw [HN.out]; omega)
    cases e6
    have hyl := upTo_le (L.getD j []) s1 (L.getD j []).length
    rw [hy] at hyl
    have hl6 := (hL.r j hjl).m
    have hi0I : (0 : Int) < (i : Int) := by omega
    have q5 : IntKind.i64.wrap ((i : Int) - 1) = (j : Int) := by rw [IntKind.wrap_i64]; omega
    have q6 : IntKind.i64.wrap (j : Int) = (j : Int) := by rw [IntKind.wrap_i64]; omega
    have q7 : IntKind.i64.wrap (y : Int) = (y : Int) := by rw [IntKind.wrap_i64]; omega
    have HU : Hid (∀ w9, Below W3.heap.size W3 w9 → Calls Try.prog 44 #[.slice a6 (L.getD j []).length c6, .int .i64 s1] w9 fun e w' => e = .returned (.int .i64 (y : Nat)) ∧ Below w9.heap.size w9 w') := Lib.hid (fun w9 hb9 => by rw [← hy]; exact upto_v a6 _ c6 (L.getD j []) s1 w9 (hrow6.below hb9))
    obtain ⟨m6, hm6⟩ : ∃ m6, (L.getD j []).length = m6 := ⟨_, rfl⟩
    rw [hm6] at HU f0 hyl
    have hjnI : (j : Int) < (n : Int) := by omega
    have HGo : Hid (∀ w', Below W3.heap.size W3 w' → OR 2 enP w' w.heap.size 94 (.slice (some ⟨W.heap.size, 0, none⟩) 1 1) [(i, r)] ∧ w.heap.size ≤ w'.heap.size) := Lib.hid (fun w' hb9 => ⟨OR.below HO3.out hb9, Nat.le_trans HB3.out.size hb9.size⟩)
    have HApp : Hid (∀ w7 w4, Below W3.heap.size W3 w7 → w7.grownBy w4 (Value.slice (some ⟨W.heap.size, 0, none⟩) 1 1).ownBlock → Below w.heap.size w w4) := Lib.hid (fun w7 w4 hb9 hg => by
      have hb3 := tr3 HB3.out hb9
      exact hb3.trans ⟨hg.os, hg.tape, hg.output, hg.size, fun q hq => hg.block q (Nat.lt_of_lt_of_le hq hb3.size) (fun e => by simp [Value.ownBlock] at e; have := HB.out.size; omega)⟩)
    have HG0 : Hid (∀ w', Below W3.heap.size W3 w' → w'.cell? ⟨w.heap.size, 0, none⟩ = some (.int .i64 (i : Int))) := Lib.hid (fun w' hb9 => (hb9.cell (p := ⟨w.heap.size, 0, none⟩) (by show w.heap.size < _; omega)).trans g0)
    have HF1 := Lib.hid (fun a m c w' (ho : OR 2 enP w' w.heap.size 94 (.slice a m c) ([(i, r)] ++ [(j, y)])) hb => HF.out a m c w' (by rw [HE.out]; exact ho) hb)
    clear hs1 hx1 hm6 hy hj hrow6 HN hL
    go_enter Try.func38, Try.ntmps38
    go_wp2_with fail
    go_region_held3 (fun w' => w'.cell? ⟨w.heap.size, 0, none⟩ = some (.int .i64 (i : Int)) ∧ w'.cell? ⟨w.heap.size, 1, none⟩ = some (.int .i64 (k : Int)) ∧ w'.cell? ⟨b, o + i, none⟩ = some (.slice (some ⟨b', o', none⟩) m ci) ∧ w'.cell? ⟨b', o' + k * 2, none⟩ = some (.int .i64 s1) ∧ w'.cell? ⟨b', o' + k * 2 + 1, none⟩ = some (.bool true)) (first | (with_reducible assumption) | exact ⟨p0', p1', c0', d0', d1'⟩ | exact HS.out _ (by go_grown)) (fail)
    rw [HW3.out]
    go_wp2_with fail
    clear p0 p1 p0' p1' c0' d0' d1' HS HW3 hW hW2 HPM HO2 HB2 g2 g3 g4 HF HE
    go_region_law (first
      | ((go_simp; (with_reducible refine (HU.out _ (by go_grown)).mono ?_); rintro e w5 ⟨rfl, hb5⟩; have hbb5 : Below W3.heap.size W3 w5 := tr3 (by go_grown) hb5; have t0 := HG0.out _ hbb5))
      | ((refine step_appB w.heap.size rfl _ _ 95 94 _ 16 (by rfl) Try.underlying95 infoPl rfl (by decide) recP (.slice (some ⟨W.heap.size, 0, none⟩) 1 1) [(i, r)] (j, y) rfl w5.heap.size 1 (by rfl) (HGo.out _ (tr3 hbb5 (by go_grown))).1 (HGo.out _ (tr3 hbb5 (by go_grown))).2 (rec_new (by go_simp) rfl) (by simp) ?_; intro va vn vc w4 ho4 hg4 hor4; have hb4 := Lib.hid (HApp.out _ w4 (tr3 hbb5 (by go_grown)) hg4))))
    all_goals
      have HF2 := Lib.hid (HF1.out _ _ _ _ ho4.out hb4.out)
      go_wp2_with fail
      all_goals first | exact HF2.out | (go_ret; exact HF2.out)
  · have HE : Hid (ahd L (i, k) = [(i, r)]) := Lib.hid (by
      unfold ahd
      simp only
      rw [if_neg hk0, if_neg (by unfold wt; simp only; rw [hx1]; exact hx), HRk.out])
    have HF1 := Lib.hid (HF.out (some ⟨W.heap.size, 0, none⟩) 1 1 W3 (by rw [HE.out]; exact HO3.out) HB3.out)
    have hxx : (x1 = false) ∨ (x1 = true ∧ i = 0) := by
      cases x1 with
      | false => exact .inl rfl
      | true => exact .inr ⟨rfl, by simp at hx; omega⟩
    clear hs1 hx1 hx
    go_enter Try.func38, Try.ntmps38
    go_wp2_with fail
    go_region_held3 (fun w' => w'.cell? ⟨w.heap.size, 0, none⟩ = some (.int .i64 (i : Int)) ∧ w'.cell? ⟨w.heap.size, 1, none⟩ = some (.int .i64 (k : Int)) ∧ w'.cell? ⟨b, o + i, none⟩ = some (.slice (some ⟨b', o', none⟩) m ci) ∧ w'.cell? ⟨b', o' + k * 2, none⟩ = some (.int .i64 s1) ∧ w'.cell? ⟨b', o' + k * 2 + 1, none⟩ = some (.bool x1)) (first | (with_reducible assumption) | exact ⟨p0', p1', c0', d0', d1'⟩ | exact HS.out _ (by go_grown)) (fail)
    rw [HW3.out]
    rcases hxx with rfl | ⟨rfl, hi0⟩
    · go_wp2_with fail
      all_goals first | exact HF1.out | (go_ret; exact HF1.out)
    · have hi0I : ¬ (0 : Int) < (i : Int) := by omega
      go_wp2_with fail
      all_goals first | exact HF1.out | (go_ret; exact HF1.out)
end Go.Proofs.Ytgbeghaojkhiaaa.gr
