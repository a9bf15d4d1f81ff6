/- Beginnings of what could happen; events of a loop of its own between them (layer 34; pure). -/
import Derived.Test.YtgbeghaojkhiaaaTrP
namespace Go.Proofs.Ytgbeghaojkhiaaa.tr
set_option linter.unusedVariables false
set_option linter.unusedSimpArgs false
theorem go_ok : ∀ (l : List I4) (F : Int → Lp) (i n : Nat), (go F i l).2 = 0 → (go F i (l.take n)).2 = 0
  | [], F, i, n, h => by simp [go]
  | e :: r, F, i, 0, h => by simp [go]
  | e :: r, F, i, n + 1, h => by
    rw [List.take_succ_cons]
    unfold go at h ⊢
    by_cases hc : ch (F e.2.1) e = 0
    · rw [if_pos hc] at h ⊢
      exact go_ok r _ _ n h
    · rw [if_neg hc] at h
      exact absurd h hc
theorem go_le : ∀ (l : List I4) (F : Int → Lp) (i : Nat), (go F i l).2 ≠ 0 → i ≤ (go F i l).1 ∧ (go F i l).1 < i + l.length
  | [], F, i, h => by simp [go] at h
  | e :: r, F, i, h => by
    unfold go at h ⊢
    by_cases hc : ch (F e.2.1) e = 0
    · rw [if_pos hc] at h ⊢
      have := go_le r _ _ h
      rw [List.length_cons]
      omega
    · rw [if_neg hc, List.length_cons]
      show i ≤ i ∧ i < i + (r.length + 1)
      omega
theorem go_cut : ∀ (l : List I4) (F : Int → Lp) (i : Nat), (go F i l).2 ≠ 0 → (go F i (l.take ((go F i l).1 - i))).2 = 0
  | [], F, i, h => by simp [go] at h
  | e :: r, F, i, h => by
    by_cases hc : ch (F e.2.1) e = 0
    · have e1 : go F i (e :: r) = go (upd F e) (i + 1) r := by
        rw [go, if_pos hc]
      rw [e1] at h ⊢
      have h1 := go_le r _ _ h
      have h2 := go_cut r _ _ h
      obtain ⟨m, hm⟩ : ∃ m, (go (upd F e) (i + 1) r).1 - (i + 1) = m := ⟨_, rfl⟩
      rw [hm] at h2
      rw [show (go (upd F e) (i + 1) r).1 - i = m + 1 by omega, List.take_succ_cons, go, if_pos hc]
      exact h2
    · have e1 : go F i (e :: r) = (i, ch (F e.2.1) e) := by
        rw [go, if_neg hc]
      rw [e1]
      simp [go]
theorem chk_ok {l : List I4} (h : (chk l).2 = 0) (n : Nat) : (chk (l.take n)).2 = 0 := go_ok l F0 0 n h
theorem chk_cut {l : List I4} (h : (chk l).2 ≠ 0) : (chk (l.take (chk l).1)).2 = 0 ∧ (chk l).1 < l.length := by
  have h1 := go_cut l F0 0 h
  have h2 := go_le l F0 0 h
  exact ⟨by simpa [chk] using h1, by simpa [chk] using h2.2⟩
/-- events of one loop more change nothing. -/
theorem go_mix (m : Int) : ∀ (bs : List I4) (F G H : Int → Lp) (i j k : Nat), (∀ z, z ≠ m → F z = G z) → F m = H m → (go H k (bs.filter fun e => decide (e.2.1 = m))).2 = 0 → (go F i bs).2 = (go G j (bs.filter fun e => decide (e.2.1 ≠ m))).2
  | [], F, G, H, i, j, k, hF, hm, ho => by simp [go]
  | e :: r, F, G, H, i, j, k, hF, hm, ho => by
    by_cases he : e.2.1 = m
    · have d1 : decide (e.2.1 = m) = true := decide_eq_true he
      have d2 : decide (e.2.1 ≠ m) = false := by simp [he]
      rw [List.filter_cons, if_pos d1] at ho
      rw [List.filter_cons, if_neg (by rw [d2]; exact Bool.false_ne_true)]
      by_cases hc : ch (H e.2.1) e = 0
      · rw [go, if_pos hc] at ho
        have hc2 : ch (F e.2.1) e = 0 := by rw [he, hm, ← he]; exact hc
        rw [go, if_pos hc2]
        refine go_mix m r _ G (upd H e) _ j _ (fun z hz => ?_) ?_ ho
        · unfold upd
          rw [if_neg (fun h => hz (h.trans he))]
          exact hF z hz
        · unfold upd
          rw [if_pos he.symm, if_pos he.symm, he, hm]
      · rw [go, if_neg hc] at ho
        exact absurd ho hc
    · have d1 : decide (e.2.1 = m) = false := decide_eq_false he
      have d2 : decide (e.2.1 ≠ m) = true := by simp [he]
      rw [List.filter_cons, if_neg (by rw [d1]; exact Bool.false_ne_true)] at ho
      rw [List.filter_cons, if_pos d2]
      have hfe := hF e.2.1 he
      by_cases hc : ch (G e.2.1) e = 0
      · rw [go, if_pos (by rw [hfe]; exact hc), go, if_pos hc]
        refine go_mix m r _ (upd G e) H _ _ k (fun z hz => ?_) ?_ ho
        · unfold upd
          by_cases h2 : z = e.2.1
          · rw [if_pos h2, if_pos h2, hfe]
          · rw [if_neg h2, if_neg h2]
            exact hF z hz
        · unfold upd
          rw [if_neg (fun h => he h.symm)]
          exact hm
      · rw [go, if_neg (by rw [hfe]; exact hc), go, if_neg hc, hfe]
/-- both, turn by turn. -/
def mixN (l o : List I4) : Nat → List I4
  | 0 => []
  | k + 1 => mixN l o k ++ l[k]?.toList ++ o[k]?.toList
theorem mix_filter (m : Int) (l o : List I4) (hl : ∀ e ∈ l, e.2.1 ≠ m) (ho : ∀ e ∈ o, e.2.1 = m) : ∀ k, ((mixN l o k).filter fun e => decide (e.2.1 = m)) = o.take k ∧ ((mixN l o k).filter fun e => decide (e.2.1 ≠ m)) = l.take k
  | 0 => by simp [mixN]
  | k + 1 => by
    have ih := mix_filter m l o hl ho k
    rw [mixN, List.filter_append, List.filter_append, ih.1, List.filter_append, List.filter_append, ih.2, List.take_add_one, List.take_add_one]
    constructor
    · cases e1 : l[k]? with
      | none => cases e2 : o[k]? with
        | none => simp
        | some y => have := ho y (List.mem_of_getElem? e2); simp [List.filter_cons, this]
      | some x =>
        have hx := hl x (List.mem_of_getElem? e1)
        cases e2 : o[k]? with
        | none => simp [List.filter_cons, hx]
        | some y => have := ho y (List.mem_of_getElem? e2); simp [List.filter_cons, hx, this]
    · cases e1 : l[k]? with
      | none => cases e2 : o[k]? with
        | none => simp
        | some y => have := ho y (List.mem_of_getElem? e2); simp [List.filter_cons, this]
      | some x =>
        have hx := hl x (List.mem_of_getElem? e1)
        cases e2 : o[k]? with
        | none => simp [List.filter_cons, hx]
        | some y => have := ho y (List.mem_of_getElem? e2); simp [List.filter_cons, hx, this]
theorem mix_chk {m : Int} {l o : List I4} (hl : ∀ e ∈ l, e.2.1 ≠ m) (ho : ∀ e ∈ o, e.2.1 = m) (hc : (chk o).2 = 0) {k : Nat} (h1 : l.length ≤ k) (h2 : o.length ≤ k) : (chk (mixN l o k)).2 = (chk l).2 := by
  obtain ⟨f1, f2⟩ := mix_filter m l o hl ho k
  rw [List.take_of_length_le h2] at f1
  rw [List.take_of_length_le h1] at f2
  have := go_mix m (mixN l o k) F0 F0 F0 0 0 0 (fun _ _ => rfl) rfl (by rw [f1]; exact hc)
  rw [f2] at this
  exact this
theorem mix_len (l o : List I4) : ∀ k, (mixN l o k).length ≤ l.length + o.length := by
  intro k
  have : (mixN l o k).length = (l.take k).length + (o.take k).length := by
    induction k with
    | zero => simp [mixN]
    | succ k ih =>
      rw [mixN, List.length_append, List.length_append, ih, List.take_add_one, List.take_add_one, List.length_append, List.length_append]
      omega
  rw [this, List.length_take, List.length_take]
  omega
end Go.Proofs.Ytgbeghaojkhiaaa.tr
