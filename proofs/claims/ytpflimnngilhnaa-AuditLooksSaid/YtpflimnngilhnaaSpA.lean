/- Weights, and the greatest sums of rows of things. No Go in sight (layer 41). -/
import Derived.Test.YtpflimnngilhnaaRhE
import Derived.Test.YtpflimnngilhnaaRecs
namespace Go.Proofs.Ytpflimnngilhnaa.rh
open Go.ChangeShapes Go.WideShapes Go.ChangeAt Go.RowKit
set_option linter.unusedVariables false
set_option linter.unusedSimpArgs false
def inB (x : Int) (n : Nat) : Bool := decide (0 ≤ x ∧ x < (n : Int))
theorem bool_iff {a b : Bool} (h : a = true ↔ b = true) : a = b := by cases a <;> cases b <;> simp_all
theorem max_int (m v : Nat) : (if (m : Int) < (v : Int) then (v : Int) else (m : Int)) = ((max m v : Nat) : Int) := by
  split <;> omega
theorem trans3 {w w1 w2 : World} (h : Below w.heap.size w w1) (k : Below w1.heap.size w1 w2) : Below w.heap.size w w2 := h.trans (k.mono h.size)
/-- Block S is N whole numbers. -/
def NR (w : World) (S N : Nat) (f : Nat → Nat) : Prop := w.rowIs S 3 N (fun i => .int .i64 ((f i : Nat) : Int))
theorem NR.below {w w' : World} {S N : Nat} {f : Nat → Nat} (h : NR w S N f) (hb : Below w.heap.size w w') : NR w' S N f :=
  h.of_block (hb.block S h.lt)
theorem NR.set {w : World} {S N : Nat} {f : Nat → Nat} (h : NR w S N f) (i x : Nat) : NR (w.setCell ⟨S, i, none⟩ (.int .i64 ((x : Nat) : Int))) S N (fun j => if j = i then x else f j) :=
  (World.rowIs.set h i _).congr fun j hj => by dsimp only; split <;> rfl
theorem NR.congr {w : World} {S N : Nat} {f g : Nat → Nat} (h : NR w S N f) (e : ∀ i, i < N → f i = g i) : NR w S N g :=
  World.rowIs.congr h fun i hi => by rw [e i hi]
theorem NR.at {w : World} {S N : Nat} {f : Nat → Nat} (h : NR w S N f) (i x : Nat) (hi : i < N) (hx : f i = x) : w.cell? ⟨S, i, none⟩ = some (.int .i64 (x : Int)) := by
  rw [World.rowIs.cell h hi, hx]
def intsObj (n : Nat) : Obj := .cells (madeCells #[.int .i64 0] n) 3
theorem mk_ints (n : Nat) (hn : n ≤ 2000) (w : World) : (Instr.makeSlice 24 (.int .i64 (n : Int)) (.int .i64 (n : Int))).run Try.prog w = .ok (.slice (some ⟨w.heap.size, 0, none⟩) n n) (w.alloc (intsObj n)) :=
  run_make_row' _ _ (.int .i64 0) 8 Try.underlying24 info3 rfl .i64 .i64 n (by omega) (by omega) w
theorem made_ints (n : Nat) (w : World) : NR (w.alloc (intsObj n)) w.heap.size n (fun _ => 0) := World.rowIs_made w (.int .i64 0) n 3
def nl (n : Nat) (f : Nat → Nat) : List Int := (List.range n).map fun (i : Nat) => ((f i : Nat) : Int)
theorem nl_len (n : Nat) (f : Nat → Nat) : (nl n f).length = n := by simp [nl]
theorem nl_at {n i : Nat} {f : Nat → Nat} (h : i < n) : (nl n f).getD i 0 = (f i : Int) := by
  simp [nl, List.getD_eq_getElem?_getD, List.getElem?_range h]
theorem NR.view {w : World} {S N : Nat} {f : Nat → Nat} (h : NR w S N f) (hN : N ≤ maxLen) : View w (.slice (some ⟨S, 0, none⟩) N N) (nl N f) :=
  ⟨_, N, by rw [nl_len], ⟨by rw [nl_len]; exact Nat.le_refl _, hN⟩, (fun h => by cases h), fun _ => ⟨S, 0, rfl, h.lt, by rw [nl_len]; exact Nat.le_refl _, fun i hi => by
    rw [nl_len] at hi
    rw [nl_at hi, Nat.zero_add]
    exact h.at i _ hi rfl⟩⟩
/-- An access: strand, word, whether it writes. -/
abbrev Acc := Int × Int × Bool
def enA (p : Acc) : List Value := [.int .i64 p.1, .int .i64 p.2.1, .bool p.2.2]
theorem recA : Rec 3 enA := ⟨by omega, fun _ => rfl, fun x u hu => by simp [enA] at hu; rcases hu with rfl | rfl | rfl <;> rfl⟩
def a0 : Acc := (0, 0, false)
def cntA (l : List Acc) (i : Nat) : Nat → Nat
  | 0 => 0
  | k + 1 => cntA l i k + if (l.getD k a0).1 = (i : Int) then 1 else 0
def inA (l : List Acc) (n : Nat) : Nat → Bool
  | 0 => true
  | k + 1 => inA l n k && inB (l.getD k a0).1 n
theorem inA_mono {l : List Acc} {n : Nat} (m k : Nat) (h : m ≤ k) (hk : inA l n k = true) : inA l n m = true := by
  induction k with
  | zero => have : m = 0 := by omega
            subst this; exact hk
  | succ k ih =>
    by_cases e : m = k + 1
    · subst e; exact hk
    · exact ih (by omega) (by simp only [inA, Bool.and_eq_true] at hk; exact hk.1)
theorem inA_bad {l : List Acc} {n k m : Nat} (hk : k < m) (h : inB (l.getD k a0).1 n = false) : inA l n m = false := by
  cases e : inA l n m with
  | false => rfl
  | true =>
    have := inA_mono (k + 1) m hk e
    simp only [inA, Bool.and_eq_true] at this
    rw [h] at this
    exact absurd this.2 (by simp)
theorem cntA_le (l : List Acc) (i k : Nat) : cntA l i k ≤ k := by
  induction k with
  | zero => exact Nat.le_refl _
  | succ k ih => simp only [cntA]; split <;> omega
def smW (W : Nat → Nat) : Nat → Nat
  | 0 => 0
  | k + 1 => smW W k + W k
theorem smW_mono (W : Nat → Nat) (m n : Nat) (h : m ≤ n) : smW W m ≤ smW W n := by
  induction n with
  | zero => have : m = 0 := by omega
            subst this; exact Nat.le_refl _
  | succ n ih =>
    by_cases e : m = n + 1
    · subst e; exact Nat.le_refl _
    · have := ih (by omega); simp only [smW]; omega
theorem smW_congr (W V : Nat → Nat) (n : Nat) (h : ∀ i, i < n → W i = V i) : smW W n = smW V n := by
  induction n with
  | zero => rfl
  | succ n ih => simp only [smW]; rw [ih fun i hi => h i (by omega), h n (by omega)]
theorem smW_ones (n : Nat) : smW (fun _ => 1) n = n := by
  induction n with
  | zero => rfl
  | succ n ih => simp only [smW]; omega
theorem smW_one_more (W V : Nat → Nat) (n x : Nat) (hx : x < n) (h : ∀ i, V i = W i + if x = i then 1 else 0) : smW V n = smW W n + 1 := by
  have low : ∀ m, m ≤ x → smW V m = smW W m := fun m hm => smW_congr _ _ _ fun i hi => by rw [h i, if_neg (by omega)]; omega
  have : ∀ m, x < m → smW V m = smW W m + 1 := by
    intro m
    induction m with
    | zero => intro h; omega
    | succ m ih =>
      intro hm
      simp only [smW]
      by_cases e : x = m
      · subst e; rw [low x (Nat.le_refl _), h x, if_pos rfl]; omega
      · rw [ih (by omega), h m, if_neg e]; omega
  exact this n hx
def wA (l : List Acc) (k i : Nat) : Nat := 1 + cntA l i k
theorem wA_sum (l : List Acc) (n k : Nat) (h : inA l n k = true) : smW (wA l k) n = n + k := by
  induction k with
  | zero => rw [smW_congr (wA l 0) (fun _ => 1) n (fun i _ => rfl), smW_ones]; omega
  | succ k ih =>
    simp only [inA, Bool.and_eq_true] at h
    have h2 := h.2
    unfold inB at h2
    simp only [decide_eq_true_eq] at h2
    rw [smW_one_more (wA l k) (wA l (k + 1)) n (l.getD k a0).1.toNat (by omega) (fun i => by
      unfold wA
      simp only [cntA]
      by_cases e : (l.getD k a0).1 = (i : Int)
      · rw [if_pos e, if_pos (by omega)]; omega
      · rw [if_neg e, if_neg (by omega)]; rfl)]
    rw [ih h.1]; omega
theorem wA_pos (l : List Acc) (k i : Nat) : 1 ≤ wA l k i := by unfold wA; omega
def hgf (L : List (List Int)) (W : Nat → Nat) : Nat → Nat → Nat
  | 0, _ => 0
  | k + 1, b => W b + mx (L.getD b []) (hgf L W k)
theorem hgf_stable {L : List (List Int)} (hv : Valid L) (W : Nat → Nat) : ∀ b k, b < k → hgf L W k b = hgf L W (b + 1) b := by
  intro b
  induction b using Nat.strongRecOn with
  | _ b ih =>
    intro k hk
    obtain ⟨k, rfl⟩ : ∃ j, k = j + 1 := ⟨k - 1, by omega⟩
    simp only [hgf]
    rw [mx_congr _ (hgf L W k) (hgf L W b)]
    intro a ha
    have h := hv b a ha
    rw [ih a.toNat (by omega) k (by omega), ih a.toNat (by omega) b (by omega)]
/-- the greatest sum of weights of a row that ends with one. -/
def hg (L : List (List Int)) (W : Nat → Nat) (b : Nat) : Nat := hgf L W (b + 1) b
theorem hg_unf {L : List (List Int)} (hv : Valid L) (W : Nat → Nat) (b : Nat) : hg L W b = W b + mx (L.getD b []) (hg L W) := by
  show W b + mx (L.getD b []) (hgf L W b) = _
  rw [mx_congr _ (hgf L W b) (hg L W)]
  intro a ha
  have h := hv b a ha
  exact hgf_stable hv W a.toNat b (by omega)
theorem hg_le {L : List (List Int)} (hv : Valid L) (W : Nat → Nat) : ∀ b, hg L W b ≤ smW W (b + 1) := by
  intro b
  induction b using Nat.strongRecOn with
  | _ b ih =>
    rw [hg_unf hv]
    simp only [smW]
    rcases mx_mem (L.getD b []) (hg L W) with h | ⟨a, ha, h⟩
    · omega
    · have h1 := hv b a ha
      have h2 := ih a.toNat (by omega)
      have h3 := smW_mono W (a.toNat + 1) b (by omega)
      omega
theorem hg_congr (L : List (List Int)) (W V : Nat → Nat) (hv : Valid L) (h : ∀ i, W i = V i) (b : Nat) : hg L W b = hg L V b := by
  have : W = V := funext h
  rw [this]
theorem mxg_le {L : List (List Int)} (hv : Valid L) (W : Nat → Nat) (k j : Nat) : mx ((L.getD k []).take j) (hg L W) ≤ smW W k := by
  rcases mx_mem ((L.getD k []).take j) (hg L W) with h | ⟨a, ha, h⟩
  · omega
  · have h1 := hv k a (List.mem_of_mem_take ha)
    have h2 := hg_le hv W a.toNat
    have h3 := smW_mono W (a.toNat + 1) k (by omega)
    omega
/-- the greatest of the first ones. -/
def gt (f : Nat → Nat) : Nat → Nat
  | 0 => 0
  | k + 1 => max (gt f k) (f k)
theorem gt_congr (f g : Nat → Nat) (n : Nat) (h : ∀ i, i < n → f i = g i) : gt f n = gt g n := by
  induction n with
  | zero => rfl
  | succ n ih => simp only [gt]; rw [ih fun i hi => h i (by omega), h n (by omega)]
theorem gt_le (f : Nat → Nat) (n c : Nat) (h : ∀ i, i < n → f i ≤ c) : gt f n ≤ c := by
  induction n with
  | zero => exact Nat.zero_le _
  | succ n ih => have := ih fun i hi => h i (by omega); have := h n (by omega); simp only [gt]; omega
theorem le_gt (f : Nat → Nat) (n i : Nat) (h : i < n) : f i ≤ gt f n := by
  induction n with
  | zero => omega
  | succ n ih =>
    simp only [gt]
    by_cases e : i = n
    · subst e; omega
    · have := ih (by omega); omega
def LG (L : List (List Int)) (W : Nat → Nat) (k j i : Nat) : Nat := if i < k then hg L W i else if i = k then mx ((L.getD k []).take j) (hg L W) else 0
theorem lg_next {L : List (List Int)} (hv : Valid L) (W : Nat → Nat) {k m i : Nat} (hm : (L.getD k []).length = m) : (if i = k then LG L W k m k + W k else LG L W k m i) = LG L W (k + 1) 0 i := by
  unfold LG
  by_cases e : i = k
  · subst e
    rw [if_pos rfl, if_neg (Nat.lt_irrefl _), if_pos rfl, if_pos (by omega), hg_unf hv, List.take_of_length_le (by omega)]
    omega
  · rw [if_neg e]
    by_cases h : i < k
    · rw [if_pos h, if_pos (by omega)]
    · rw [if_neg h, if_neg e, if_neg (by omega)]
      split
      · simp [mx]
      · rfl
theorem lg_step {L : List (List Int)} {W : Nat → Nat} {k j a i : Nat} (hj : j < (L.getD k []).length) (ha : (L.getD k []).getD j 0 = (a : Int)) (hak : a < k) : (if i = k then max (LG L W k j k) (LG L W k j a) else LG L W k j i) = LG L W k (j + 1) i := by
  unfold LG
  by_cases e : i = k
  · subst e
    rw [if_pos rfl, if_neg (Nat.lt_irrefl _), if_pos rfl, if_pos hak, if_neg (Nat.lt_irrefl _), if_pos rfl, mx_take _ _ _ hj, ha]
    rfl
  · rw [if_neg e]
    by_cases h : i < k
    · rw [if_pos h, if_pos h]
    · rw [if_neg h, if_neg e, if_neg h, if_neg e]
theorem lg_le {L : List (List Int)} (hv : Valid L) (W : Nat → Nat) {k j i n : Nat} (hk : k ≤ n) : LG L W k j i ≤ smW W n := by
  unfold LG
  split
  · have := hg_le hv W i
    have := smW_mono W (i + 1) n (by omega)
    omega
  · split
    · have := mxg_le hv W k j
      have := smW_mono W k n hk
      omega
    · omega
end Go.Proofs.Ytpflimnngilhnaa.rh
