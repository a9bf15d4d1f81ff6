/- How long a greedy plan is. No Go in sight (layer 41). -/
import Derived.Test.YtpflimnngilhnaaSpM
namespace Go.Proofs.Ytpflimnngilhnaa.rh
open Go.ChangeShapes Go.WideShapes Go.ChangeAt Go.RowKit
set_option linter.unusedVariables false
set_option linter.unusedSimpArgs false
/-- who is done has its predecessors done. -/
def Closed (L : List (List Int)) (dn : List Int) : Prop := ∀ b : Nat, (b : Int) ∈ dn → ∀ a ∈ L.getD b [], a ∈ dn
theorem rd_preds {L : List (List Int)} {k n : Nat} {dn : List Int} {b : Nat} (h : (b : Int) ∈ rdy L k dn n) : ∀ a ∈ L.getD b [], a ∈ dn := by
  obtain ⟨i, _, h2, h3⟩ := rdy_mem h
  obtain rfl : b = i := by omega
  intro a ha
  unfold rdB at h3
  simp only [Bool.and_eq_true, List.all_eq_true] at h3
  simpa using h3.2 a ha
theorem closed_next {L : List (List Int)} {k n : Nat} {dn : List Int} (h : Closed L dn) : Closed L (dn ++ rdy L k dn n) := by
  intro b hb a ha
  rcases List.mem_append.1 hb with hb | hb
  · exact List.mem_append_left _ (h b hb a ha)
  · exact List.mem_append_left _ (rd_preds hb a ha)
theorem closed_dn (L : List (List Int)) (n k t : Nat) : Closed L (dnT L n k t) := by
  induction t with
  | zero => intro b hb; cases hb
  | succ t ih => exact closed_next ih
theorem hg_dn {L : List (List Int)} (hv : Valid L) (n k : Nat) : ∀ t (b : Nat), (b : Int) ∈ dnT L n k t → hg L one b ≤ t := by
  intro t
  induction t with
  | zero => intro b hb; cases hb
  | succ t ih =>
    intro b hb
    rcases List.mem_append.1 hb with hb | hb
    · have := ih b hb; omega
    · rw [hg_unf hv]
      rcases mx_mem (L.getD b []) (hg L one) with h | ⟨a, ha, h⟩
      · rw [h]; unfold one; omega
      · have h1 := hv b a ha
        have h2 := rd_preds hb a ha
        have h3 := ih a.toNat (by rw [show ((a.toNat : Nat) : Int) = a by omega]; exact h2)
        rw [h]; unfold one at *; omega
theorem dn_full {n : Nat} {dn : List Int} (h : DnOk n dn) (hl : ¬ dn.length < n) : ∀ b : Nat, b < n → (b : Int) ∈ dn := by
  intro b hb
  have h1 := cnt_ind h
  cases h2 : ind dn b with
  | true => unfold ind at h2; simpa using h2
  | false =>
    have h3 := cnt_more (ind dn) (fun _ => true) n b hb (fun _ _ _ => rfl) h2 rfl
    have h4 : cnt (fun _ => true) n ≤ n := cnt_le _ _
    omega
theorem g1 {L : List (List Int)} (hv : Valid L) {n k t : Nat} (h : ¬ (dnT L n k t).length < n) : gt (hg L one) n ≤ t :=
  gt_le _ _ _ fun b hb => hg_dn hv n k t b (dn_full (dnT_ok L n k t) h b hb)
theorem g2 (L : List (List Int)) (n k : Nat) : ∀ t, (dnT L n k t).length ≤ t * k := by
  intro t
  induction t with
  | zero => simp [dnT]
  | succ t ih =>
    rw [dnT, List.length_append, Nat.succ_mul]
    have := rdy_len L k (dnT L n k t) n
    omega
/-- what counts: who is not done. -/
def wd (dn : List Int) (i : Nat) : Nat := if (i : Int) ∈ dn then 0 else 1
theorem hg_mono {L : List (List Int)} (hv : Valid L) (V W : Nat → Nat) (h : ∀ i, V i ≤ W i) : ∀ b, hg L V b ≤ hg L W b := by
  intro b
  induction b using Nat.strongRecOn with
  | _ b ih =>
    rw [hg_unf hv, hg_unf hv]
    have h0 := h b
    rcases mx_mem (L.getD b []) (hg L V) with h1 | ⟨a, ha, h1⟩
    · omega
    · have h2 := hv b a ha
      have h3 := ih a.toNat (by omega)
      have h4 := le_mx (L.getD b []) (hg L W) a ha
      omega
theorem hg_done {L : List (List Int)} (hv : Valid L) {dn : List Int} (hc : Closed L dn) : ∀ b : Nat, (b : Int) ∈ dn → hg L (wd dn) b = 0 := by
  intro b
  induction b using Nat.strongRecOn with
  | _ b ih =>
    intro hb
    rw [hg_unf hv]
    have h0 : wd dn b = 0 := by unfold wd; rw [if_pos hb]
    rcases mx_mem (L.getD b []) (hg L (wd dn)) with h1 | ⟨a, ha, h1⟩
    · omega
    · have h2 := hv b a ha
      have h3 := ih a.toNat (by omega) (by rw [show ((a.toNat : Nat) : Int) = a by omega]; exact hc b hb a ha)
      omega
theorem wd_mono (dn us : List Int) (i : Nat) : wd (dn ++ us) i ≤ wd dn i := by
  unfold wd
  by_cases h : (i : Int) ∈ dn
  · rw [if_pos h, if_pos (List.mem_append_left _ h)]; exact Nat.le_refl _
  · rw [if_neg h]; split <;> omega
theorem rdy_all {L : List (List Int)} {k : Nat} {dn : List Int} {n i : Nat} (hk : (rdy L k dn n).length < k) (hi : i < n) (h : rdB L dn i = true) : (i : Int) ∈ rdy L k dn n := by
  have key : ∀ m, m ≤ n → (rdy L k dn m).length < k := by
    intro m hm
    rcases Nat.lt_or_ge (rdy L k dn m).length k with h | h
    · exact h
    · have := rdy_full L k dn m n hm (Nat.le_antisymm (rdy_len _ _ _ _) h)
      rw [this] at hk; omega
  have grow : ∀ m, i < m → m ≤ n → (i : Int) ∈ rdy L k dn m := by
    intro m
    induction m with
    | zero => intro h; omega
    | succ m ih =>
      intro h1 h2
      have h3 := key m (by omega)
      rw [rdy]
      by_cases e : i = m
      · subst e; rw [if_pos ⟨h3, h⟩]; simp
      · have := ih (by omega) (by omega)
        split
        · exact List.mem_append_left _ this
        · exact this
  exact grow n hi (Nat.le_refl _)
theorem hg_less {L : List (List Int)} (hv : Valid L) {k n : Nat} {dn : List Int} (hc : Closed L dn) (hk : (rdy L k dn n).length < k) : ∀ b : Nat, b < n → ¬ (b : Int) ∈ dn ++ rdy L k dn n → hg L (wd (dn ++ rdy L k dn n)) b + 1 ≤ hg L (wd dn) b := by
  intro b
  induction b using Nat.strongRecOn with
  | _ b ih =>
    intro hb hnb
    have hnd : ¬ (b : Int) ∈ dn := fun h => hnb (List.mem_append_left _ h)
    have hnr : ¬ rdB L dn b = true := fun h => hnb (List.mem_append_right _ (rdy_all hk hb h))
    have hex : ∃ a ∈ L.getD b [], ¬ a ∈ dn := by
      apply Classical.byContradiction
      intro hno
      apply hnr
      unfold rdB
      rw [Bool.and_eq_true]
      refine ⟨by simpa using hnd, List.all_eq_true.2 fun a ha => ?_⟩
      rw [decide_eq_true_eq]
      exact Classical.byContradiction fun h => hno ⟨a, ha, h⟩
    obtain ⟨a0, ha0, hna0⟩ := hex
    have h00 := hv b a0 ha0
    have hge : 1 ≤ hg L (wd dn) a0.toNat := by
      rw [hg_unf hv]
      have : wd dn a0.toNat = 1 := by unfold wd; rw [if_neg (by rw [show ((a0.toNat : Nat) : Int) = a0 by omega]; exact hna0)]
      omega
    have hle0 := le_mx (L.getD b []) (hg L (wd dn)) a0 ha0
    have hw1 : wd dn b = 1 := by unfold wd; rw [if_neg hnd]
    have hw2 : wd (dn ++ rdy L k dn n) b = 1 := by unfold wd; rw [if_neg hnb]
    rw [hg_unf hv (wd (dn ++ rdy L k dn n)), hg_unf hv (wd dn), hw1, hw2]
    rcases mx_mem (L.getD b []) (hg L (wd (dn ++ rdy L k dn n))) with h1 | ⟨a, ha, h1⟩
    · omega
    · have h2 := hv b a ha
      have hle := le_mx (L.getD b []) (hg L (wd dn)) a ha
      by_cases hda : a ∈ dn ++ rdy L k dn n
      · have h3 := hg_done hv (closed_next (k := k) (n := n) hc) a.toNat (by rw [show ((a.toNat : Nat) : Int) = a by omega]; exact hda)
        omega
      · have h3 := ih a.toNat (by omega) (by omega) (by rw [show ((a.toNat : Nat) : Int) = a by omega]; exact hda)
        omega
def HH (L : List (List Int)) (n : Nat) (dn : List Int) : Nat := gt (hg L (wd dn)) n
theorem gt_at (f : Nat → Nat) (n : Nat) : gt f n = 0 ∨ ∃ b, b < n ∧ gt f n = f b := by
  induction n with
  | zero => exact .inl rfl
  | succ n ih =>
    by_cases e : gt f n ≤ f n
    · exact .inr ⟨n, by omega, by simp only [gt]; omega⟩
    · rcases ih with h | ⟨b, hb, h⟩
      · omega
      · exact .inr ⟨b, by omega, by simp only [gt]; omega⟩
theorem hh_le {L : List (List Int)} (hv : Valid L) (n : Nat) (dn us : List Int) : HH L n (dn ++ us) ≤ HH L n dn :=
  gt_le _ _ _ fun b hb => Nat.le_trans (hg_mono hv _ _ (wd_mono dn us) b) (le_gt (hg L (wd dn)) n b hb)
theorem hh_less {L : List (List Int)} (hv : Valid L) {k n : Nat} {dn : List Int} (hc : Closed L dn) (hd : DnOk n dn) (hl : dn.length < n) (hk : (rdy L k dn n).length < k) : HH L n (dn ++ rdy L k dn n) + 1 ≤ HH L n dn := by
  have hpos : 1 ≤ HH L n dn := by
    rw [← cnt_ind hd] at hl
    obtain ⟨i, h1, h2, _⟩ := least hl
    have h3 := le_gt (hg L (wd dn)) n i h1
    have h4 : 1 ≤ hg L (wd dn) i := by
      rw [hg_unf hv]
      have : wd dn i = 1 := by unfold wd; rw [if_neg (by unfold ind at h2; simpa using h2)]
      omega
    unfold HH; omega
  rcases gt_at (hg L (wd (dn ++ rdy L k dn n))) n with h | ⟨b, hb, h⟩
  · have : HH L n (dn ++ rdy L k dn n) = 0 := h
    omega
  · have h1 : HH L n (dn ++ rdy L k dn n) = hg L (wd (dn ++ rdy L k dn n)) b := h
    by_cases hdb : (b : Int) ∈ dn ++ rdy L k dn n
    · rw [hg_done hv (closed_next hc) b hdb] at h1; omega
    · have h2 := hg_less hv hc hk b hb hdb
      have h3 := le_gt (hg L (wd dn)) n b hb
      unfold HH at *; omega
/-- how many rows have room left. -/
def nf (L : List (List Int)) (n k : Nat) : Nat → Nat
  | 0 => 0
  | t + 1 => nf L n k t + if (rdy L k (dnT L n k t) n).length < k then 1 else 0
theorem nf_le (L : List (List Int)) (n k t : Nat) : nf L n k t ≤ t := by
  induction t with
  | zero => exact Nat.le_refl _
  | succ t ih => simp only [nf]; split <;> omega
theorem nf_hh {L : List (List Int)} (hv : Valid L) (n k : Nat) : ∀ t, (∀ s, s < t → (dnT L n k s).length < n) → nf L n k t + HH L n (dnT L n k t) ≤ gt (hg L one) n := by
  intro t
  induction t with
  | zero => intro _; show 0 + gt (hg L (wd [])) n ≤ _; rw [Nat.zero_add]; exact gt_le _ _ _ fun b hb => by
              have : hg L (wd []) b = hg L one b := hg_congr L _ _ hv (fun i => by simp [wd, one]) b
              rw [this]; exact le_gt (hg L one) n b hb
  | succ t ih =>
    intro h
    have h1 := ih fun s hs => h s (by omega)
    simp only [nf, dnT]
    split
    · rename_i hk
      have := hh_less (k := k) hv (closed_dn L n k t) (dnT_ok L n k t) (h t (by omega)) hk
      omega
    · have := hh_le hv n (dnT L n k t) (rdy L k (dnT L n k t) n)
      omega
theorem full_sum {L : List (List Int)} (hv : Valid L) {n k : Nat} (hk : 1 ≤ k) : ∀ t, (∀ s, s < t → (dnT L n k s).length < n) → k * (t - nf L n k t) + nf L n k t ≤ (dnT L n k t).length := by
  intro t
  induction t with
  | zero => intro _; simp [nf]
  | succ t ih =>
    intro h
    have h1 := ih fun s hs => h s (by omega)
    have h2 := nf_le L n k t
    have h3 := rdy_some (k := k) hv hk (dnT_ok L n k t) (h t (by omega))
    simp only [nf, dnT, List.length_append]
    split
    · have e : t + 1 - (nf L n k t + 1) = t - nf L n k t := by omega
      rw [e]; omega
    · have e : t + 1 - (nf L n k t + 0) = (t - nf L n k t) + 1 := by omega
      rw [e, Nat.mul_add, Nat.mul_one]
      omega
theorem g3 {L : List (List Int)} (hv : Valid L) {n k t : Nat} (hk : 1 ≤ k) (h1 : ∀ s, s < t → (dnT L n k s).length < n) : t ≤ gt (hg L one) n + (n - gt (hg L one) n + k - 1) / k := by
  have e1 := nf_hh hv n k t h1
  have e2 := full_sum hv hk t h1
  have e3 := dn_le (dnT_ok L n k t)
  have e4 := nf_le L n k t
  have e5 : gt (hg L one) n ≤ n := gt_le _ _ _ fun b hb => by
    have := hg_le hv one b
    rw [one_sum] at this; omega
  generalize gt (hg L one) n = H at *
  generalize nf L n k t = m at *
  obtain ⟨c, hc⟩ : ∃ c, (n - H + k - 1) / k = c := ⟨_, rfl⟩
  rw [hc]
  have hx : n - H ≤ k * c := by
    have h1 := Nat.div_add_mod (n - H + k - 1) k
    have h2 := Nat.mod_lt (n - H + k - 1) (show 0 < k by omega)
    rw [hc] at h1
    omega
  apply Classical.byContradiction
  intro hlt
  have hf : c + (H - m) + 1 ≤ t - m := by omega
  have h2 := Nat.mul_le_mul_left k hf
  have h3 : k * (c + (H - m) + 1) = k * c + k * (H - m) + k := by rw [Nat.mul_add, Nat.mul_add, Nat.mul_one]
  have h4 : H - m ≤ k * (H - m) := Nat.le_mul_of_pos_left _ (by omega)
  omega
theorem roT_at (L : List (List Int)) (n k : Nat) : ∀ t i, i < t → (roT L n k t).getD i [] = rdy L k (dnT L n k i) n := by
  intro t
  induction t with
  | zero => intro i h; omega
  | succ t ih =>
    intro i hi
    have hl := roT_len L n k t
    rw [roT, List.getD_eq_getElem?_getD]
    by_cases e : i < t
    · rw [List.getElem?_append_left (by omega), ← List.getD_eq_getElem?_getD]; exact ih i e
    · have : i = t := by omega
      subst this
      rw [List.getElem?_append_right (by omega), hl, Nat.sub_self]; rfl
/-- where each stands: in a row ahead, in this one, or not yet. -/
def FG (L : List (List Int)) (n k i p : Nat) (f : Nat → Nat) : Prop :=
  ∀ x, x < n → ((x : Int) ∈ dnT L n k i → 1 ≤ f x ∧ f x ≤ i) ∧ ((x : Int) ∈ (rdy L k (dnT L n k i) n).take p → f x = i + 1) ∧ (¬ (x : Int) ∈ dnT L n k i → ¬ (x : Int) ∈ (rdy L k (dnT L n k i) n).take p → f x = 0)
theorem fg_start (L : List (List Int)) (n k : Nat) : FG L n k 0 0 (fun _ => 0) := fun x hx => ⟨fun h => (by cases h), fun h => by simp at h, fun _ _ => rfl⟩
theorem fg_step {L : List (List Int)} {n k i p c : Nat} {f : Nat → Nat} (h : FG L n k i p f) (hp : p < (rdy L k (dnT L n k i) n).length) (hc : (rdy L k (dnT L n k i) n).getD p 0 = (c : Int)) (hn : ¬ (c : Int) ∈ dnT L n k i) : FG L n k i (p + 1) (fun x => if x = c then i + 1 else f x) := by
  have e : (rdy L k (dnT L n k i) n).take (p + 1) = (rdy L k (dnT L n k i) n).take p ++ [(c : Int)] := by
    rw [List.take_add_one, List.getElem?_eq_getElem hp, ← hc, List.getD_eq_getElem?_getD, List.getElem?_eq_getElem hp]; rfl
  intro x hx
  obtain ⟨h1, h2, h3⟩ := h x hx
  rw [e]
  dsimp only
  by_cases ex : x = c
  · subst ex
    rw [if_pos rfl]
    exact ⟨fun h => absurd h hn, fun _ => rfl, fun _ h => absurd (by simp) h⟩
  · rw [if_neg ex]
    refine ⟨h1, fun h => ?_, fun ha hb => h3 ha fun h => hb (List.mem_append_left _ h)⟩
    rcases List.mem_append.1 h with h | h
    · exact h2 h
    · simp at h; omega
theorem fg_next {L : List (List Int)} {n k i p : Nat} {f : Nat → Nat} (h : FG L n k i p f) (hp : ¬ p < (rdy L k (dnT L n k i) n).length) : FG L n k (i + 1) 0 f := by
  intro x hx
  obtain ⟨h1, h2, h3⟩ := h x hx
  rw [List.take_of_length_le (by omega)] at h2 h3
  refine ⟨fun hm => ?_, fun h => by simp at h, fun ha _ => ?_⟩
  · rcases List.mem_append.1 hm with hm | hm
    · have := h1 hm; omega
    · have := h2 hm; omega
  · exact h3 (fun h => ha (List.mem_append_left _ h)) (fun h => ha (List.mem_append_right _ h))
theorem rdy_new {L : List (List Int)} {k n : Nat} {dn : List Int} {x : Int} (h : x ∈ rdy L k dn n) : ¬ x ∈ dn := by
  obtain ⟨i, _, rfl, h3⟩ := rdy_mem h
  unfold rdB at h3
  simp only [Bool.and_eq_true, Bool.not_eq_true', decide_eq_false_iff_not] at h3
  exact h3.1
theorem nodup_take {l : List Int} (h : l.Nodup) {p : Nat} (hp : p < l.length) : ¬ l.getD p 0 ∈ l.take p := by
  have e : l.take (p + 1) = l.take p ++ [l.getD p 0] := by
    rw [List.take_add_one, List.getElem?_eq_getElem hp, List.getD_eq_getElem?_getD, List.getElem?_eq_getElem hp]; rfl
  have h1 : (l.take (p + 1)).Nodup := h.sublist (List.take_sublist _ _)
  rw [e, List.nodup_append] at h1
  exact fun h2 => h1.2.2 _ h2 _ (by simp) rfl
end Go.Proofs.Ytpflimnngilhnaa.rh
