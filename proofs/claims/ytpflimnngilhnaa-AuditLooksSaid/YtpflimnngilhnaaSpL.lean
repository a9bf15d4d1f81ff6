/- Too much to be asked; how many rows a plan has; what has to work; errors (layer 41). -/
import Derived.Test.YtpflimnngilhnaaSpK
import Derived.Test.YtpflimnngilhnaaMats
import Derived.Test.YtpflimnngilhnaaMix
namespace Go.Proofs.Ytpflimnngilhnaa.rh
open Go.ChangeShapes Go.WideShapes Go.ChangeAt Go.RowKit
set_option linter.unusedVariables false
set_option linter.unusedSimpArgs false
theorem infoA : (Try.prog.info? 71).map (fun i => (i.zero, i.size, i.bytes)) = some (some (.agg #[.int .i64 0, .int .i64 0, .bool false]), 3, 24) := by kernel_rfl
theorem t_unique {f : Nat → Nat} {n t u : Nat} (h1 : ∀ s, s < t → f s < n) (h2 : ¬ f t < n) (h3 : ∀ s, s < u → f s < n) (h4 : ¬ f u < n) : t = u := by
  by_cases e : t < u
  · exact absurd (h3 t e) h2
  · by_cases e2 : u < t
    · exact absurd (h1 u e2) h4
    · omega
theorem greedy_of (a : Option Addr) (n cap k : Nat) (W : Int) (L : List (List Int)) (w : World) (h : MV w (.slice a n cap) L) (hc : ck L = 0) (hn : n ≤ 150) (hrow : ∀ i, (L.getD i []).length ≤ 40) (hk1 : 1 ≤ k) (hk2 : k ≤ 64) (hk : Hid (∃ m1 : Int, (if W < 1 then (1 : Int) else W) = m1 ∧ (if 64 < m1 then (64 : Int) else m1) = (k : Int))) :
    Calls Try.prog 24 #[.slice a n cap, .int .i64 W] w fun e w' => ∃ t : Nat, e = .returned (.tuple #[.int .i64 (t : Int), .int .i64 0]) ∧ (∀ s, s < t → (dnT L n k s).length < n) ∧ ¬ (dnT L n k t).length < n ∧ Below w.heap.size w w' := by
  have C := Lib.hid (plan_of a n cap k W L w h hc hn hrow hk1 hk2 hk)
  unfold PnPost at C
  clear h hc
  go_enter Try.func24, Try.ntmps24
  go_wp2_with (first | (go_at_call 23; (with_reducible refine C.out.mono ?_); (rintro e w1 ⟨t, v, rfl, h1, h2, hm, HB⟩); (obtain ⟨av, cv, rfl, _⟩ := hm.form)))
  go_ret2
  exact ⟨t, by simp only [roT_len]; rfl, h1, h2, HB⟩
/-- are there too many? -/
def grC (L : List (List Int)) : Nat → Bool
  | 0 => false
  | k + 1 => grC L k || decide (150 ≤ k) || decide (40 < (L.getD k []).length)
theorem grC_mono (L : List (List Int)) (m n : Nat) (h : m ≤ n) (hn : grC L n = false) : grC L m = false := by
  induction n with
  | zero => have : m = 0 := by omega
            subst this; exact hn
  | succ n ih =>
    simp only [grC, Bool.or_eq_false_iff] at hn
    by_cases e : m = n + 1
    · subst e; simp only [grC, Bool.or_eq_false_iff]; exact hn
    · exact ih (by omega) hn.1.1
theorem grC_false {L : List (List Int)} {n : Nat} (h : grC L n = false) : n ≤ 150 ∧ ∀ i, i < n → (L.getD i []).length ≤ 40 := by
  refine ⟨?_, fun i hi => ?_⟩
  · rcases Nat.eq_zero_or_pos n with e | e
    · omega
    · obtain ⟨m, rfl⟩ : ∃ m, n = m + 1 := ⟨n - 1, by omega⟩
      simp only [grC, Bool.or_eq_false_iff, decide_eq_false_iff_not] at h
      omega
  · have := grC_mono L (i + 1) n hi h
    simp only [grC, Bool.or_eq_false_iff, decide_eq_false_iff_not] at this
    omega
theorem row_all {L : List (List Int)} {c : Nat} (h : ∀ i, i < L.length → (L.getD i []).length ≤ c) : ∀ i, (L.getD i []).length ≤ c := fun i => by
  by_cases e : i < L.length
  · exact h i e
  · rw [List.getD_eq_getElem?_getD, List.getElem?_eq_none (by omega)]; simp
set_option maxRecDepth 20000 in
theorem great41 (a aa : Option Addr) (n cap m ca : Nat) (L : List (List Int)) (g : Bool) (w : World) (h : MV w (.slice a n cap) L) (hg : (grC L n || decide (300 < m)) = g) :
    Calls Try.prog 13 #[.slice a n cap, .slice aa m ca] w fun e w' => e = .returned (.bool g) ∧ w = w' := by
  obtain ⟨hnl, hnc, hcm⟩ := h.len
  unfold maxLen at hcm
  have H := Lib.hid h
  have HG := Lib.hid hg
  clear h hg hnl
  go_enter Try.func13, Try.ntmps13
  go_wp2_with fail
  go_loop [5] (fun i => ∃ k : Nat, k ≤ n ∧ i = .int .i64 (k : Int) ∧ Hid (grC L k = false)) (fun i => n - (intOf i).toNat)
  case atStart => exact ⟨0, by omega, rfl, Lib.hid rfl⟩
  case round =>
    obtain ⟨k, hk, rfl, HK⟩ := hrel
    by_cases hlt : k < n
    · obtain ⟨b, o, ai, ci, rfl, hbl, hc, hv⟩ := H.out.row k hlt
      have hE : Hid (grC L (k + 1) = (grC L k || decide (150 ≤ k) || decide (40 < (L.getD k []).length))) := Lib.hid rfl
      clear hv
      generalize (L.getD k []).length = r at *
      have HT : Hid (grC L (k + 1) = true → g = true) := Lib.hid fun h2 => by
        rw [← HG.out]
        cases hgn : grC L n with
        | true => rfl
        | false => rw [grC_mono L (k + 1) n hlt hgn] at h2; cases h2
      by_cases h1 : 150 ≤ k
      · have hI : (150 : Int) ≤ (k : Int) := by omega
        have HF := Lib.hid (HT.out (by rw [hE.out]; simp [h1]))
        clear hE HT
        go_wp2_with fail
        go_ret
        exact ⟨by rw [HF.out]; rfl, rfl⟩
      · have hI : ¬ (150 : Int) ≤ (k : Int) := by omega
        by_cases h2 : 40 < r
        · have hJ : (40 : Int) < (r : Int) := by omega
          have HF := Lib.hid (HT.out (by rw [hE.out]; simp [h2]))
          clear hE HT
          go_wp2_with fail
          go_ret
          exact ⟨by rw [HF.out]; rfl, rfl⟩
        · have hJ : ¬ (40 : Int) < (r : Int) := by omega
          have HN : Hid (grC L (k + 1) = false) := Lib.hid (by rw [hE.out, HK.out]; simp; omega)
          clear hE HT
          go_wp2_with fail
          go_round
          case rel => exact ⟨k + 1, by omega, by go_num, HN⟩
          case measure => simp [intOf]; omega
    · obtain rfl : k = n := by omega
      have HX : Hid (decide (300 < m) = g) := Lib.hid (by rw [← HG.out, HK.out]; rfl)
      by_cases hm : 300 < m
      · have hmI : (300 : Int) < (m : Int) := by omega
        have HF : Hid (g = true) := Lib.hid (by rw [← HX.out]; simpa using hm)
        have hmd : decide ((300 : Int) < (m : Int)) = true := by simpa using hmI
        go_wp2_with fail
        go_ret
        exact ⟨by rw [HF.out]; first | rfl | (simp; omega), rfl⟩
      · have hmI : ¬ (300 : Int) < (m : Int) := by omega
        have HF : Hid (g = false) := Lib.hid (by rw [← HX.out]; simpa using hm)
        have hmd : decide ((300 : Int) < (m : Int)) = false := by simpa using hmI
        go_wp2_with fail
        go_ret
        exact ⟨by rw [HF.out]; first | rfl | (simp; omega), rfl⟩
theorem rv_of_mix {w : World} {a : Option Addr} {len cap : Nat} {Z : Nat → Nat → Int} {Y : Nat → Nat → Bool} (h : IsMix [some .i64, some .i64, none] w a len cap Z Y) : ∃ xs : List Acc, RV 3 enA w (.slice a len cap) xs := by
  refine ⟨(List.range len).map fun i => (Z i 0, Z i 1, Y i 2), ?_⟩
  have hl : ((List.range len).map fun i => (Z i 0, Z i 1, Y i 2)).length = len := by simp
  rcases h with ⟨rfl, rfl, rfl⟩ | ⟨x, rfl, hle, hm, hc⟩
  · exact ⟨none, 0, rfl, Nat.le_refl _, Nat.zero_le _, fun _ => rfl, fun i p hp => by simp at hp⟩
  · refine ⟨some x, cap, by rw [hl], by rw [hl]; exact hle, hm, (fun e => by cases e), fun i p hp => ?_⟩
    have hi : i < len := by have := (List.getElem?_eq_some_iff.1 hp).1; rw [hl] at this; exact this
    rw [List.getElem?_map, List.getElem?_range hi] at hp
    simp only [Option.map_some, Option.some.injEq] at hp
    subst hp
    obtain ⟨b, off, spot⟩ := x
    have h1 := (hc 0 (by omega) 0 _ rfl).1
    have hspot : spot = none := by simpa [Addr.add] using World.cell?_spot h1
    subst hspot
    rw [Go.WideShapes.add_plain] at h1
    refine ⟨b, off, rfl, World.block_lt_of_cell? w _ h1, fun j u hu => ?_⟩
    have key := fun (j : Nat) (k : Option IntKind) hk => (hc i (by omega) j k hk).1
    match j, hu with
    | 0, hu => simp [enA] at hu; subst hu; have := key 0 _ rfl; rw [Go.WideShapes.add_plain] at this; exact this
    | 1, hu => simp [enA] at hu; subst hu; have := key 1 _ rfl; rw [Go.WideShapes.add_plain] at this; exact this
    | 2, hu => simp [enA] at hu; subst hu; have := key 2 _ rfl; rw [Go.WideShapes.add_plain] at this; exact this
theorem cw_parts {a aa : Option Addr} {n cap m ca : Nat} {L : List (List Int)} {l : List Acc} {c : Int} {w : World} (h : MV w (.slice a n cap) L) (hl : RV 3 enA w (.slice aa m ca) l) (hc : cw L l = c) (h0 : c = 9 ∨ c = 3) : (ck L = c ∧ ¬ ck L = 0) ∨ (ck L = 0 ∧ inA l n m = false ∧ c = 3) := by
  have e1 := h.len.1
  have e2 := hl.len.1
  unfold cw at hc
  by_cases hk : ck L = 0
  · rw [if_pos hk] at hc
    cases hi : inA l L.length l.length with
    | true => rw [hi] at hc; simp at hc; exact absurd hc.symm (by omega)
    | false => rw [hi] at hc; simp at hc; exact .inr ⟨hk, by rw [e1, e2]; exact hi, hc.symm⟩
  · rw [if_neg hk] at hc; exact .inl ⟨hc, hk⟩
section
variable (a aa : Option Addr) (n cap m ca : Nat) (L : List (List Int)) (l : List Acc) (c : Int) (q : Value) (w : World) (h : MV w (.slice a n cap) L) (hl : RV 3 enA w (.slice aa m ca) l) (hc : cw L l = c) (h0 : c = 9 ∨ c = 3) (hm : m ≤ 1000)
include h hl hc h0 hm
theorem weights_err : Calls Try.prog 15 #[.agg #[.slice a n cap, q, .slice aa m ca]] w fun e w' => e = .returned (.tuple #[.slice none 0 0, .int .i64 c]) ∧ Below w.heap.size w w' := by
  rcases cw_parts h hl hc h0 with ⟨h1, _⟩ | ⟨h1, h2, rfl⟩
  · exact weights_bad a n cap L c q _ w h h1 h0
  · exact weights_no a aa n cap m ca L l q w h hl h1 hm h2
theorem work_err : Calls Try.prog 16 #[.agg #[.slice a n cap, q, .slice aa m ca]] w fun e w' => e = .returned (.tuple #[.int .i64 0, .int .i64 c]) ∧ Below w.heap.size w w' := by
  rcases cw_parts h hl hc h0 with ⟨h1, _⟩ | ⟨h1, h2, rfl⟩
  · exact work_bad a n cap L c q _ w h h1 h0
  · exact work_no a aa n cap m ca L l q w h hl h1 hm h2
theorem span_err : Calls Try.prog 17 #[.agg #[.slice a n cap, q, .slice aa m ca]] w fun e w' => e = .returned (.tuple #[.int .i64 0, .int .i64 c]) ∧ Below w.heap.size w w' := by
  rcases cw_parts h hl hc h0 with ⟨h1, _⟩ | ⟨h1, h2, rfl⟩
  · exact span_bad a n cap L c q _ w h h1 h0
  · exact span_no a aa n cap m ca L l q w h hl h1 hm h2
theorem rweights_err : Calls Try.prog 18 #[.slice a n cap, .slice aa m ca] w fun e w' => e = .returned (.tuple #[.slice none 0 0, .int .i64 c]) ∧ Below w.heap.size w w' := by
  rcases cw_parts h hl hc h0 with ⟨h1, _⟩ | ⟨h1, h2, rfl⟩
  · exact (rweights_bad a n cap L c _ w h h1 h0).mono fun e w' h => ⟨h.1, by rw [← h.2]; exact Below.refl _ _⟩
  · refine (rweights_of a aa n cap m ca L l w h hl h1 hm).mono fun e w' h => ?_
    rcases h with ⟨h, _⟩ | ⟨_, h⟩
    · rw [h2] at h; cases h
    · exact h
end
theorem rweights_yes (a aa : Option Addr) (n cap m ca : Nat) (L : List (List Int)) (l : List Acc) (w : World) (h : MV w (.slice a n cap) L) (hl : RV 3 enA w (.slice aa m ca) l) (hc : ck L = 0) (hm : m ≤ 1000) (hI : inA l n m = true) :
    Calls Try.prog 18 #[.slice a n cap, .slice aa m ca] w (YPost w n (wA l m)) :=
  (rweights_of a aa n cap m ca L l w h hl hc hm).mono fun e w' h => by
    rcases h with ⟨_, h⟩ | ⟨h, _⟩
    · exact h
    · rw [hI] at h; cases h
end Go.Proofs.Ytpflimnngilhnaa.rh
