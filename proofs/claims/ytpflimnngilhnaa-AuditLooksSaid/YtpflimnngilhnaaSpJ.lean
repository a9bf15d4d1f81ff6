/- Who comes behind whom, in memory; how many ahead are not done (layer 41). -/
import Derived.Test.YtpflimnngilhnaaSpI
namespace Go.Proofs.Ytpflimnngilhnaa.rh
open Go.ChangeShapes Go.WideShapes Go.ChangeAt Go.RowKit
set_option linter.unusedVariables false
set_option linter.unusedSimpArgs false
def BF (w : World) (SB n B : Nat) (R : Nat → Value) (Y : Nat → List Int) : Prop :=
  w.rowIs SB 24 n R ∧ SB < B ∧ (∀ a, a < n → OI w B (R a) (Y a)) ∧ ∀ a b, a < n → b < n → a ≠ b → ∀ g, (R a).ownBlock = some g → (R b).ownBlock ≠ some g
theorem set_at (w : World) (S i g : Nat) (v : Value) (h : g ≠ S) : (w.setCell ⟨S, i, none⟩ v).heap[g]? = w.heap[g]? := by
  show (w.heap.modify S _)[g]? = _
  rw [Array.getElem?_modify, if_neg (fun e => h e.symm)]
theorem set_sz (w : World) (S i : Nat) (v : Value) : (w.setCell ⟨S, i, none⟩ v).heap.size = w.heap.size := by
  show (w.heap.modify S _).size = _
  simp
theorem BF.keep {w w' : World} {SB n B : Nat} {R : Nat → Value} {Y : Nat → List Int} (h : BF w SB n B R Y) (hk : ∀ g, SB ≤ g → g < w.heap.size → w'.heap[g]? = w.heap[g]?) : BF w' SB n B R Y := by
  obtain ⟨h1, h2, h3, h4⟩ := h
  refine ⟨h1.of_block (hk SB (Nat.le_refl _) h1.lt), h2, fun a ha => oi_block (h3 a ha) fun g e => ?_, h4⟩
  have := own_ltI (h3 a ha) g e
  exact hk g (by omega) this.2
theorem BF.below {w w' : World} {SB n B : Nat} {R : Nat → Value} {Y : Nat → List Int} (h : BF w SB n B R Y) (hb : Below w.heap.size w w') : BF w' SB n B R Y :=
  h.keep fun g _ hg => hb.block g hg
theorem BF.congr {w : World} {SB n B : Nat} {R : Nat → Value} {Y Z : Nat → List Int} (h : BF w SB n B R Y) (e : ∀ a, a < n → Y a = Z a) : BF w SB n B R Z :=
  ⟨h.1, h.2.1, fun a ha => by rw [← e a ha]; exact h.2.2.1 a ha, h.2.2.2⟩
theorem BF.push {w w2 : World} {SB n B a : Nat} {R : Nat → Value} {Y : Nat → List Int} {v' : Value} {x : Int} (h : BF w SB n B R Y) (ha : a < n) (hr : OI w2 B v' (Y a ++ [x])) (hg : w.grownBy w2 (R a).ownBlock) (hb : v'.ownBlock = (R a).ownBlock ∨ v'.ownBlock = some w.heap.size) :
    BF (w2.setCell ⟨SB, a, none⟩ v') SB n B (fun j => if j = a then v' else R j) (fun j => if j = a then Y a ++ [x] else Y j) := by
  obtain ⟨h1, h2, h3, h4⟩ := h
  have hSB : w2.heap[SB]? = w.heap[SB]? := hg.block SB h1.lt fun e => by
    have := (own_ltI (h3 a ha) SB e.symm).1
    omega
  refine ⟨(h1.of_block hSB).set a v', h2, fun j hj => ?_, fun i j hi hj hij g e => ?_⟩
  · by_cases e : j = a
    · subst e
      simp only [if_pos]
      exact oi_block hr fun g e => set_at _ _ _ _ _ (by have := (own_ltI hr g e).1; omega)
    · simp only [if_neg e]
      refine oi_block (h3 j hj) fun g e2 => ?_
      have hl := own_ltI (h3 j hj) g e2
      rw [set_at _ _ _ _ _ (by omega)]
      exact hg.block g hl.2 fun e3 => h4 j a hj ha e g e2 e3.symm
  · dsimp only at e ⊢
    by_cases ei : i = a
    · subst ei
      rw [if_pos rfl] at e
      rw [if_neg (fun e => hij e.symm)]
      intro e2
      rcases hb with hb | hb
      · exact h4 i j hi hj hij g (by rw [← hb]; exact e) e2
      · rw [hb] at e
        have := (own_ltI (h3 j hj) g e2).2
        cases e; omega
    · rw [if_neg ei] at e
      by_cases ej : j = a
      · subst ej
        rw [if_pos rfl]
        intro e2
        rcases hb with hb | hb
        · exact h4 i j hi hj hij g e (by rw [← hb]; exact e2)
        · rw [hb] at e2
          have := (own_ltI (h3 i hi) g e).2
          cases e2; omega
      · rw [if_neg ej]; exact h4 i j hi hj hij g e
theorem mk_slices (n : Nat) (hn : n ≤ 2000) (w : World) : (Instr.makeSlice 23 (.int .i64 (n : Int)) (.int .i64 (n : Int))).run Try.prog w = .ok (.slice (some ⟨w.heap.size, 0, none⟩) n n) (w.alloc (.cells (madeCells #[.slice none 0 0] n) 24)) :=
  run_make_row' _ _ (.slice none 0 0) 24 Try.underlying23 info24 rfl .i64 .i64 n (by omega) (by omega) w
theorem BF.start (n : Nat) (w : World) : BF (w.alloc (.cells (madeCells #[.slice none 0 0] n) 24)) w.heap.size n (w.heap.size + 1) (fun _ => .slice none 0 0) (fun _ => []) :=
  ⟨World.rowIs_made w (.slice none 0 0) n 24, by omega, fun _ _ => oi_nil _ _, fun _ _ _ _ _ g e => by simp [Value.ownBlock] at e⟩
/-- those behind one, each as often as it names it. -/
def behN (L : List (List Int)) (a : Nat) : Nat → List Int
  | 0 => []
  | b + 1 => behN L a b ++ List.replicate ((L.getD b []).count (a : Int)) (b : Int)
def YB (L : List (List Int)) (b j a : Nat) : List Int := behN L a b ++ List.replicate (((L.getD b []).take j).count (a : Int)) (b : Int)
theorem yb_zero (L : List (List Int)) (b a : Nat) : YB L b 0 a = behN L a b := by simp [YB]
theorem yb_next {L : List (List Int)} {b m a : Nat} (h : (L.getD b []).length = m) : YB L b m a = YB L (b + 1) 0 a := by
  rw [yb_zero]; unfold YB; rw [List.take_of_length_le (by omega)]; rfl
theorem yb_step {L : List (List Int)} {b j a c : Nat} (hj : j < (L.getD b []).length) (ha : (L.getD b []).getD j 0 = (a : Int)) : (if c = a then YB L b j a ++ [(b : Int)] else YB L b j c) = YB L b (j + 1) c := by
  unfold YB
  have ht : (L.getD b []).take (j + 1) = (L.getD b []).take j ++ [(a : Int)] := by
    rw [List.take_add_one, List.getElem?_eq_getElem hj, ← ha, List.getD_eq_getElem?_getD (l := L.getD b []), List.getElem?_eq_getElem hj]; rfl
  rw [ht]
  by_cases e : c = a
  · subst e
    rw [if_pos rfl, List.count_append, List.append_assoc]
    simp [List.replicate_succ']
  · rw [if_neg e, List.count_append]
    have : List.count (c : Int) [(a : Int)] = 0 := List.count_eq_zero.2 (by simp; omega)
    rw [this]; rfl
theorem beh_count (L : List (List Int)) (a b : Nat) : ∀ m, (behN L a m).count (b : Int) = if b < m then (L.getD b []).count (a : Int) else 0 := by
  intro m
  induction m with
  | zero => simp [behN]
  | succ m ih =>
    rw [behN, List.count_append, ih, List.count_replicate]
    by_cases e : m = b
    · subst e; simp
    · have h1 : ¬ ((m : Int) == (b : Int)) = true := by simp; omega
      rw [if_neg h1]
      by_cases h : b < m
      · rw [if_pos h, if_pos (by omega)]; rfl
      · rw [if_neg h, if_neg (by omega)]
theorem beh_mem {L : List (List Int)} {a : Nat} {x : Int} : ∀ {m : Nat}, x ∈ behN L a m → ∃ b : Nat, b < m ∧ x = (b : Int) := by
  intro m
  induction m with
  | zero => intro h; cases h
  | succ m ih =>
    intro h
    rcases List.mem_append.1 h with h | h
    · obtain ⟨b, h1, h2⟩ := ih h
      exact ⟨b, by omega, h2⟩
    · exact ⟨m, by omega, (List.mem_replicate.1 h).2⟩
theorem beh_len {L : List (List Int)} {c : Nat} (h : ∀ i, (L.getD i []).length ≤ c) (a : Nat) : ∀ m, (behN L a m).length ≤ m * c := by
  intro m
  induction m with
  | zero => simp [behN]
  | succ m ih =>
    rw [behN, List.length_append, List.length_replicate, Nat.succ_mul]
    have := List.count_le_length (a := (a : Int)) (l := L.getD m [])
    have := h m
    omega
theorem yb_len {L : List (List Int)} {c : Nat} (h : ∀ i, (L.getD i []).length ≤ c) (b j a : Nat) : (YB L b j a).length ≤ (b + 1) * c := by
  unfold YB
  rw [List.length_append, List.length_replicate, Nat.succ_mul]
  have h1 := beh_len h a b
  have h2 := List.count_le_length (a := (a : Int)) (l := (L.getD b []).take j)
  have h3 := h b
  rw [List.length_take] at h2
  omega
/-- how many of its predecessors are not done. -/
def lf (L : List (List Int)) (dn : List Int) (b : Nat) : Nat := (L.getD b []).countP (fun a => !decide (a ∈ dn))
theorem lf_nil (L : List (List Int)) (b : Nat) : lf L [] b = (L.getD b []).length := by
  unfold lf
  rw [List.countP_eq_length]
  intro a _; simp
theorem lf_rd (L : List (List Int)) (dn : List Int) (i : Nat) : (lf L dn i == 0 && !ind dn i) = rdB L dn i := by
  apply bool_iff
  unfold rdB ind lf
  simp only [Bool.and_eq_true, beq_iff_eq, List.countP_eq_zero, Bool.not_eq_true', Bool.not_eq_false, List.all_eq_true, decide_eq_true_eq]
  constructor
  · rintro ⟨h1, h2⟩
    exact ⟨h2, fun a ha => by have := h1 a ha; simpa using this⟩
  · rintro ⟨h1, h2⟩
    exact ⟨fun a ha => by simpa using h2 a ha, h1⟩
theorem lf_add {L : List (List Int)} {dn : List Int} {a : Int} (h : ¬ a ∈ dn) (b : Nat) : lf L (dn ++ [a]) b + (L.getD b []).count a = lf L dn b := by
  unfold lf
  induction L.getD b [] with
  | nil => rfl
  | cons x l ih =>
    rw [List.countP_cons, List.countP_cons, List.count_cons]
    generalize List.countP (fun a_1 => !decide (a_1 ∈ dn ++ [a])) l = A at *
    generalize List.countP (fun a => !decide (a ∈ dn)) l = B at *
    by_cases e : x = a
    · subst e
      have h1 : (!decide (x ∈ dn ++ [x])) = false := by simp
      have h2 : (!decide (x ∈ dn)) = true := by simpa using h
      simp only [h1, h2, beq_self_eq_true, if_true]
      simp; omega
    · have h1 : (!decide (x ∈ dn ++ [a])) = (!decide (x ∈ dn)) := by simp [e]
      have h2 : (x == a) = false := by simpa using e
      simp only [h1, h2]
      simp; omega
theorem count_take_lt {l : List Int} {t : Nat} {x : Int} (ht : t < l.length) (h : l.getD t 0 = x) : (l.take (t + 1)).count x = (l.take t).count x + 1 ∧ (l.take t).count x + 1 ≤ l.count x := by
  have e : l.take (t + 1) = l.take t ++ [x] := by
    rw [List.take_add_one, List.getElem?_eq_getElem ht, ← h, List.getD_eq_getElem?_getD, List.getElem?_eq_getElem ht]; rfl
  have h1 : (l.take (t + 1)).count x = (l.take t).count x + 1 := by rw [e, List.count_append]; simp
  refine ⟨h1, ?_⟩
  have h2 : (l.take (t + 1)).count x ≤ l.count x := (List.take_sublist _ _).count_le x
  omega
theorem count_take_ne {l : List Int} {t : Nat} {x y : Int} (ht : t < l.length) (h : l.getD t 0 = x) (hne : ¬ x = y) : (l.take (t + 1)).count y = (l.take t).count y := by
  have e : l.take (t + 1) = l.take t ++ [x] := by
    rw [List.take_add_one, List.getElem?_eq_getElem ht, ← h, List.getD_eq_getElem?_getD, List.getElem?_eq_getElem ht]; rfl
  rw [e, List.count_append]
  have : List.count y [x] = 0 := List.count_eq_zero.2 (by simp; exact fun e => hne e.symm)
  rw [this]; rfl
/-- what stays: all but two blocks. -/
def K3 (SL SD : Nat) (w w' : World) : Prop := w.heap.size ≤ w'.heap.size ∧ ∀ g, g < w.heap.size → g ≠ SL → g ≠ SD → w'.heap[g]? = w.heap[g]?
theorem K3.refl (SL SD : Nat) (w : World) : K3 SL SD w w := ⟨Nat.le_refl _, fun _ _ _ _ => rfl⟩
theorem K3.setL (SL SD i : Nat) (v : Value) (w : World) : K3 SL SD w (w.setCell ⟨SL, i, none⟩ v) := ⟨by rw [set_sz]; exact Nat.le_refl _, fun g _ h _ => set_at _ _ _ _ _ h⟩
theorem K3.setD (SL SD i : Nat) (v : Value) (w : World) : K3 SL SD w (w.setCell ⟨SD, i, none⟩ v) := ⟨by rw [set_sz]; exact Nat.le_refl _, fun g _ _ h => set_at _ _ _ _ _ h⟩
theorem K3.trans {SL SD : Nat} {w w' w'' : World} (h : K3 SL SD w w') (k : K3 SL SD w' w'') : K3 SL SD w w'' :=
  ⟨Nat.le_trans h.1 k.1, fun g h1 h2 h3 => (k.2 g (Nat.lt_of_lt_of_le h1 h.1) h2 h3).trans (h.2 g h1 h2 h3)⟩
theorem K3.of_below {SL SD : Nat} {w w' : World} (h : Below w.heap.size w w') : K3 SL SD w w' := ⟨h.size, fun g h1 _ _ => h.block g h1⟩
end Go.Proofs.Ytpflimnngilhnaa.rh
