/- The two sides' state, one access at a time: what holds of it, and that it comes to its end (layer 19). -/
import Derived.Test.YtegbifphekhgkaaCrD
namespace Go.Proofs.Ytegbifphekhgkaa
open Go.ChangeShapes Go.WideShapes Go.ChangeAt Go.RowKit
set_option linter.unusedVariables false
set_option linter.unusedSimpArgs false
/-- How many stages have been gone to; how far it has come; what its look does next; what it got; what the one that waits does next; how often it went on; whether its token stands. -/
structure Q where
  at_ : Nat
  come : Int
  pa : Nat
  got : Int
  pb : Nat
  goes : Int
  W : Nat
def Inv (n : Nat) (st : Int) (q : Q) : Prop :=
  (q.come = 0 ∧ q.at_ = 0 ∨ q.come = 1048575 ∧ 1 ≤ q.at_ ∧ q.at_ ≤ n ∨ q.come = 1048576 ∧ q.at_ = n + 1) ∧
  ((q.pb ≤ 1 ∧ q.W = 0 ∧ q.goes = 0 ∧ q.got = 0 ∧ q.pa ≤ 1) ∨
  (q.pb = 2 ∧ q.W = 1 ∧ q.goes = 0 ∧ q.got = 0 ∧ q.pa ≤ 1) ∨
  (q.pb = 2 ∧ q.W = 1 ∧ q.goes = 0 ∧ q.got = 0 ∧ q.pa = 2 ∧ st < q.come) ∨
  (q.pb = 3 ∧ q.W = 1 ∧ q.goes = 0 ∧ q.got = 0 ∧ q.pa ≤ 2 ∧ st < q.come) ∨
  (q.pb = 4 ∧ q.W = 0 ∧ q.goes = 1 ∧ q.got = 0 ∧ q.pa ≤ 2 ∧ st < q.come) ∨
  (q.pb = 4 ∧ q.W = 1 ∧ q.goes = 0 ∧ q.got = 0 ∧ q.pa ≤ 1 ∧ q.come ≤ st) ∨
  (q.pb = 4 ∧ q.W = 1 ∧ q.goes = 0 ∧ q.got = 0 ∧ 1 ≤ q.pa ∧ q.pa ≤ 2 ∧ st < q.come) ∨
  (2 ≤ q.pb ∧ q.pb ≤ 4 ∧ q.W = 0 ∧ q.goes = 0 ∧ q.got = 0 ∧ q.pa = 3 ∧ st < q.come) ∨
  (2 ≤ q.pb ∧ q.pb ≤ 4 ∧ q.W = 0 ∧ q.goes = 0 ∧ q.got = 1 ∧ q.pa ≤ 1 ∧ st < q.come))
/-- How many accesses are still to come of who goes ahead. -/
def psi (n : Nat) (q : Q) : Nat := 2 * (n + 1 - q.at_) + (if q.pa = 0 then (if q.at_ ≤ n ∧ (q.pb ≤ 1 ∨ q.W = 1) then 2 else 0) else if q.pa = 1 then 1 + (if q.pb ≤ 1 ∨ q.W = 1 then 2 else 0) else if q.pa = 2 then 2 else 1)
def Less (a b : Nat) : Prop := a + 1 ≤ b ∨ b = 0 ∧ a = 0
set_option maxHeartbeats 1000000 in
theorem inv_go (n : Nat) (st : Int) (q : Q) (c : Int) (h0 : 0 ≤ st) (h1 : st ≤ 59) (h : Inv n st q) (ha : q.pa = 0) (hc : q.at_ < n ∧ c = 1048575 ∨ q.at_ = n ∧ c = 1048576) :
    Inv n st { q with at_ := q.at_ + 1, come := c, pa := 1 } ∧ psi n { q with at_ := q.at_ + 1, come := c, pa := 1 } + 1 ≤ psi n q := by
  obtain ⟨a, c0, pa, got, pb, goes, W⟩ := q
  simp only at ha hc
  subst ha
  unfold Inv at *
  unfold psi
  simp only at *
  try simp only [and_true, true_and] at h ⊢
  obtain ⟨h3, h2⟩ := h
  refine ⟨⟨by omega, ?_⟩, ?_⟩
  · rcases h2 with h2 | h2 | h2 | h2 | h2 | h2 | h2 | h2 | h2 <;> first | (exfalso; omega) | (refine Or.inl ?_; omega) | (refine Or.inr (Or.inl ?_); omega) | (refine Or.inr (Or.inr (Or.inl ?_)); omega) | (refine Or.inr (Or.inr (Or.inr (Or.inl ?_))); omega) | (refine Or.inr (Or.inr (Or.inr (Or.inr (Or.inl ?_)))); omega) | (refine Or.inr (Or.inr (Or.inr (Or.inr (Or.inr (Or.inl ?_))))); omega) | (refine Or.inr (Or.inr (Or.inr (Or.inr (Or.inr (Or.inr (Or.inl ?_)))))); omega) | (refine Or.inr (Or.inr (Or.inr (Or.inr (Or.inr (Or.inr (Or.inr (Or.inl ?_))))))); omega) | (refine Or.inr (Or.inr (Or.inr (Or.inr (Or.inr (Or.inr (Or.inr (Or.inr ?_))))))); omega)
  have han : a ≤ n := by omega
  simp only [if_true, if_false, Nat.one_ne_zero, Nat.zero_ne_one, reduceIte, han, true_and]
  split <;> omega
set_option maxHeartbeats 1000000 in
theorem inv_1y (n : Nat) (st : Int) (q : Q) (h0 : 0 ≤ st) (h1 : st ≤ 59) (h : Inv n st q) (ha : q.pa = 1) (hw : q.W = 1) (hc : st < q.come) :
    Inv n st { q with pa := 2 } ∧ psi n { q with pa := 2 } + 1 ≤ psi n q := by
  obtain ⟨a, c0, pa, got, pb, goes, W⟩ := q
  simp only at ha hw hc
  subst ha hw
  unfold Inv at *
  unfold psi
  simp only at *
  try simp only [and_true, true_and] at h ⊢
  obtain ⟨h3, h2⟩ := h
  refine ⟨⟨by omega, ?_⟩, ?_⟩
  · rcases h2 with h2 | h2 | h2 | h2 | h2 | h2 | h2 | h2 | h2 <;> first | (exfalso; omega) | (refine Or.inl ?_; omega) | (refine Or.inr (Or.inl ?_); omega) | (refine Or.inr (Or.inr (Or.inl ?_)); omega) | (refine Or.inr (Or.inr (Or.inr (Or.inl ?_))); omega) | (refine Or.inr (Or.inr (Or.inr (Or.inr (Or.inl ?_)))); omega) | (refine Or.inr (Or.inr (Or.inr (Or.inr (Or.inr (Or.inl ?_))))); omega) | (refine Or.inr (Or.inr (Or.inr (Or.inr (Or.inr (Or.inr (Or.inl ?_)))))); omega) | (refine Or.inr (Or.inr (Or.inr (Or.inr (Or.inr (Or.inr (Or.inr (Or.inl ?_))))))); omega) | (refine Or.inr (Or.inr (Or.inr (Or.inr (Or.inr (Or.inr (Or.inr (Or.inr ?_))))))); omega)
  simp
set_option maxHeartbeats 1000000 in
theorem inv_1n (n : Nat) (st : Int) (q : Q) (h0 : 0 ≤ st) (h1 : st ≤ 59) (h : Inv n st q) (ha : q.pa = 1) (hw : ¬ (q.W = 1 ∧ st < q.come)) :
    Inv n st { q with pa := 0 } ∧ psi n { q with pa := 0 } + 1 ≤ psi n q := by
  obtain ⟨a, c0, pa, got, pb, goes, W⟩ := q
  simp only at ha hw
  subst ha
  unfold Inv at *
  unfold psi
  simp only at *
  try simp only [and_true, true_and] at h ⊢
  obtain ⟨h3, h2⟩ := h
  refine ⟨⟨by omega, ?_⟩, ?_⟩
  · rcases h2 with h2 | h2 | h2 | h2 | h2 | h2 | h2 | h2 | h2 <;> first | (exfalso; omega) | (refine Or.inl ?_; omega) | (refine Or.inr (Or.inl ?_); omega) | (refine Or.inr (Or.inr (Or.inl ?_)); omega) | (refine Or.inr (Or.inr (Or.inr (Or.inl ?_))); omega) | (refine Or.inr (Or.inr (Or.inr (Or.inr (Or.inl ?_)))); omega) | (refine Or.inr (Or.inr (Or.inr (Or.inr (Or.inr (Or.inl ?_))))); omega) | (refine Or.inr (Or.inr (Or.inr (Or.inr (Or.inr (Or.inr (Or.inl ?_)))))); omega) | (refine Or.inr (Or.inr (Or.inr (Or.inr (Or.inr (Or.inr (Or.inr (Or.inl ?_))))))); omega) | (refine Or.inr (Or.inr (Or.inr (Or.inr (Or.inr (Or.inr (Or.inr (Or.inr ?_))))))); omega)
  simp
  split <;> split <;> omega
set_option maxHeartbeats 1000000 in
theorem inv_2y (n : Nat) (st : Int) (q : Q) (h0 : 0 ≤ st) (h1 : st ≤ 59) (h : Inv n st q) (ha : q.pa = 2) (hw : q.W = 1) :
    Inv n st { q with pa := 3, W := 0 } ∧ psi n { q with pa := 3, W := 0 } + 1 ≤ psi n q := by
  obtain ⟨a, c0, pa, got, pb, goes, W⟩ := q
  simp only at ha hw
  subst ha hw
  unfold Inv at *
  unfold psi
  simp only at *
  try simp only [and_true, true_and] at h ⊢
  obtain ⟨h3, h2⟩ := h
  refine ⟨⟨by omega, ?_⟩, ?_⟩
  · rcases h2 with h2 | h2 | h2 | h2 | h2 | h2 | h2 | h2 | h2 <;> first | (exfalso; omega) | (refine Or.inl ?_; omega) | (refine Or.inr (Or.inl ?_); omega) | (refine Or.inr (Or.inr (Or.inl ?_)); omega) | (refine Or.inr (Or.inr (Or.inr (Or.inl ?_))); omega) | (refine Or.inr (Or.inr (Or.inr (Or.inr (Or.inl ?_)))); omega) | (refine Or.inr (Or.inr (Or.inr (Or.inr (Or.inr (Or.inl ?_))))); omega) | (refine Or.inr (Or.inr (Or.inr (Or.inr (Or.inr (Or.inr (Or.inl ?_)))))); omega) | (refine Or.inr (Or.inr (Or.inr (Or.inr (Or.inr (Or.inr (Or.inr (Or.inl ?_))))))); omega) | (refine Or.inr (Or.inr (Or.inr (Or.inr (Or.inr (Or.inr (Or.inr (Or.inr ?_))))))); omega)
  simp
set_option maxHeartbeats 1000000 in
theorem inv_2n (n : Nat) (st : Int) (q : Q) (h0 : 0 ≤ st) (h1 : st ≤ 59) (h : Inv n st q) (ha : q.pa = 2) (hw : q.W = 0) :
    Inv n st { q with pa := 0 } ∧ psi n { q with pa := 0 } + 1 ≤ psi n q := by
  obtain ⟨a, c0, pa, got, pb, goes, W⟩ := q
  simp only at ha hw
  subst ha hw
  unfold Inv at *
  unfold psi
  simp only at *
  have hpb : ¬ pb ≤ 1 := by omega
  try simp only [and_true, true_and] at h ⊢
  obtain ⟨h3, h2⟩ := h
  refine ⟨⟨by omega, ?_⟩, ?_⟩
  · rcases h2 with h2 | h2 | h2 | h2 | h2 | h2 | h2 | h2 | h2 <;> first | (exfalso; omega) | (refine Or.inl ?_; omega) | (refine Or.inr (Or.inl ?_); omega) | (refine Or.inr (Or.inr (Or.inl ?_)); omega) | (refine Or.inr (Or.inr (Or.inr (Or.inl ?_))); omega) | (refine Or.inr (Or.inr (Or.inr (Or.inr (Or.inl ?_)))); omega) | (refine Or.inr (Or.inr (Or.inr (Or.inr (Or.inr (Or.inl ?_))))); omega) | (refine Or.inr (Or.inr (Or.inr (Or.inr (Or.inr (Or.inr (Or.inl ?_)))))); omega) | (refine Or.inr (Or.inr (Or.inr (Or.inr (Or.inr (Or.inr (Or.inr (Or.inl ?_))))))); omega) | (refine Or.inr (Or.inr (Or.inr (Or.inr (Or.inr (Or.inr (Or.inr (Or.inr ?_))))))); omega)
  simp [hpb]
set_option maxHeartbeats 1000000 in
theorem inv_3 (n : Nat) (st : Int) (q : Q) (h0 : 0 ≤ st) (h1 : st ≤ 59) (h : Inv n st q) (ha : q.pa = 3) :
    Inv n st { q with pa := 0, got := q.got + 1 } ∧ psi n { q with pa := 0, got := q.got + 1 } + 1 ≤ psi n q := by
  obtain ⟨a, c0, pa, got, pb, goes, W⟩ := q
  simp only at ha
  subst ha
  unfold Inv at *
  unfold psi
  simp only at *
  have hpb : ¬ pb ≤ 1 := by omega
  have hw : W = 0 := by omega
  subst hw
  try simp only [and_true, true_and] at h ⊢
  obtain ⟨h3, h2⟩ := h
  refine ⟨⟨by omega, ?_⟩, ?_⟩
  · rcases h2 with h2 | h2 | h2 | h2 | h2 | h2 | h2 | h2 | h2 <;> first | (exfalso; omega) | (refine Or.inl ?_; omega) | (refine Or.inr (Or.inl ?_); omega) | (refine Or.inr (Or.inr (Or.inl ?_)); omega) | (refine Or.inr (Or.inr (Or.inr (Or.inl ?_))); omega) | (refine Or.inr (Or.inr (Or.inr (Or.inr (Or.inl ?_)))); omega) | (refine Or.inr (Or.inr (Or.inr (Or.inr (Or.inr (Or.inl ?_))))); omega) | (refine Or.inr (Or.inr (Or.inr (Or.inr (Or.inr (Or.inr (Or.inl ?_)))))); omega) | (refine Or.inr (Or.inr (Or.inr (Or.inr (Or.inr (Or.inr (Or.inr (Or.inl ?_))))))); omega) | (refine Or.inr (Or.inr (Or.inr (Or.inr (Or.inr (Or.inr (Or.inr (Or.inr ?_))))))); omega)
  simp [hpb]
def LessB (q' q : Q) : Prop := (4 - q'.pb) + 1 ≤ 4 - q.pb ∨ q.pb = 4 ∧ q'.pb = 4
set_option maxHeartbeats 1000000 in
theorem inv_b0y (n : Nat) (st : Int) (q : Q) (h0 : 0 ≤ st) (h1 : st ≤ 59) (h : Inv n st q) (hb : q.pb = 0) (hc : st < q.come) :
    Inv n st { q with pb := 4, goes := q.goes + 1 } ∧ psi n { q with pb := 4, goes := q.goes + 1 } ≤ psi n q ∧ LessB { q with pb := 4, goes := q.goes + 1 } q := by
  obtain ⟨a, c0, pa, got, pb, goes, W⟩ := q
  simp only at hb hc
  subst hb
  unfold Inv at *
  unfold psi LessB
  simp only at *
  try simp only [and_true, true_and] at h ⊢
  obtain ⟨h3, h2⟩ := h
  refine ⟨⟨by omega, ?_⟩, ?_, by omega⟩
  · rcases h2 with h2 | h2 | h2 | h2 | h2 | h2 | h2 | h2 | h2 <;> first | (exfalso; omega) | (refine Or.inl ?_; omega) | (refine Or.inr (Or.inl ?_); omega) | (refine Or.inr (Or.inr (Or.inl ?_)); omega) | (refine Or.inr (Or.inr (Or.inr (Or.inl ?_))); omega) | (refine Or.inr (Or.inr (Or.inr (Or.inr (Or.inl ?_)))); omega) | (refine Or.inr (Or.inr (Or.inr (Or.inr (Or.inr (Or.inl ?_))))); omega) | (refine Or.inr (Or.inr (Or.inr (Or.inr (Or.inr (Or.inr (Or.inl ?_)))))); omega) | (refine Or.inr (Or.inr (Or.inr (Or.inr (Or.inr (Or.inr (Or.inr (Or.inl ?_))))))); omega) | (refine Or.inr (Or.inr (Or.inr (Or.inr (Or.inr (Or.inr (Or.inr (Or.inr ?_))))))); omega)
  simp
  split
  · split <;> omega
  · split
    · split <;> omega
    · omega
set_option maxHeartbeats 1000000 in
theorem inv_b0n (n : Nat) (st : Int) (q : Q) (h0 : 0 ≤ st) (h1 : st ≤ 59) (h : Inv n st q) (hb : q.pb = 0) (hc : q.come ≤ st) :
    Inv n st { q with pb := 1 } ∧ psi n { q with pb := 1 } ≤ psi n q ∧ LessB { q with pb := 1 } q := by
  obtain ⟨a, c0, pa, got, pb, goes, W⟩ := q
  simp only at hb hc
  subst hb
  unfold Inv at *
  unfold psi LessB
  simp only at *
  try simp only [and_true, true_and] at h ⊢
  obtain ⟨h3, h2⟩ := h
  refine ⟨⟨by omega, ?_⟩, ?_, by omega⟩
  · rcases h2 with h2 | h2 | h2 | h2 | h2 | h2 | h2 | h2 | h2 <;> first | (exfalso; omega) | (refine Or.inl ?_; omega) | (refine Or.inr (Or.inl ?_); omega) | (refine Or.inr (Or.inr (Or.inl ?_)); omega) | (refine Or.inr (Or.inr (Or.inr (Or.inl ?_))); omega) | (refine Or.inr (Or.inr (Or.inr (Or.inr (Or.inl ?_)))); omega) | (refine Or.inr (Or.inr (Or.inr (Or.inr (Or.inr (Or.inl ?_))))); omega) | (refine Or.inr (Or.inr (Or.inr (Or.inr (Or.inr (Or.inr (Or.inl ?_)))))); omega) | (refine Or.inr (Or.inr (Or.inr (Or.inr (Or.inr (Or.inr (Or.inr (Or.inl ?_))))))); omega) | (refine Or.inr (Or.inr (Or.inr (Or.inr (Or.inr (Or.inr (Or.inr (Or.inr ?_))))))); omega)
  simp
set_option maxHeartbeats 1000000 in
theorem inv_b1 (n : Nat) (st : Int) (q : Q) (h0 : 0 ≤ st) (h1 : st ≤ 59) (h : Inv n st q) (hb : q.pb = 1) :
    Inv n st { q with pb := 2, W := 1 } ∧ psi n { q with pb := 2, W := 1 } ≤ psi n q ∧ LessB { q with pb := 2, W := 1 } q := by
  obtain ⟨a, c0, pa, got, pb, goes, W⟩ := q
  simp only at hb
  subst hb
  unfold Inv at *
  unfold psi LessB
  simp only at *
  try simp only [and_true, true_and] at h ⊢
  obtain ⟨h3, h2⟩ := h
  refine ⟨⟨by omega, ?_⟩, ?_, by omega⟩
  · rcases h2 with h2 | h2 | h2 | h2 | h2 | h2 | h2 | h2 | h2 <;> first | (exfalso; omega) | (refine Or.inl ?_; omega) | (refine Or.inr (Or.inl ?_); omega) | (refine Or.inr (Or.inr (Or.inl ?_)); omega) | (refine Or.inr (Or.inr (Or.inr (Or.inl ?_))); omega) | (refine Or.inr (Or.inr (Or.inr (Or.inr (Or.inl ?_)))); omega) | (refine Or.inr (Or.inr (Or.inr (Or.inr (Or.inr (Or.inl ?_))))); omega) | (refine Or.inr (Or.inr (Or.inr (Or.inr (Or.inr (Or.inr (Or.inl ?_)))))); omega) | (refine Or.inr (Or.inr (Or.inr (Or.inr (Or.inr (Or.inr (Or.inr (Or.inl ?_))))))); omega) | (refine Or.inr (Or.inr (Or.inr (Or.inr (Or.inr (Or.inr (Or.inr (Or.inr ?_))))))); omega)
  simp
set_option maxHeartbeats 1000000 in
theorem inv_b2n (n : Nat) (st : Int) (q : Q) (h0 : 0 ≤ st) (h1 : st ≤ 59) (h : Inv n st q) (hb : q.pb = 2) (hc : q.come ≤ st) :
    Inv n st { q with pb := 4 } ∧ psi n { q with pb := 4 } ≤ psi n q ∧ LessB { q with pb := 4 } q := by
  obtain ⟨a, c0, pa, got, pb, goes, W⟩ := q
  simp only at hb hc
  subst hb
  unfold Inv at *
  unfold psi LessB
  simp only at *
  try simp only [and_true, true_and] at h ⊢
  obtain ⟨h3, h2⟩ := h
  refine ⟨⟨by omega, ?_⟩, ?_, by omega⟩
  · rcases h2 with h2 | h2 | h2 | h2 | h2 | h2 | h2 | h2 | h2 <;> first | (exfalso; omega) | (refine Or.inl ?_; omega) | (refine Or.inr (Or.inl ?_); omega) | (refine Or.inr (Or.inr (Or.inl ?_)); omega) | (refine Or.inr (Or.inr (Or.inr (Or.inl ?_))); omega) | (refine Or.inr (Or.inr (Or.inr (Or.inr (Or.inl ?_)))); omega) | (refine Or.inr (Or.inr (Or.inr (Or.inr (Or.inr (Or.inl ?_))))); omega) | (refine Or.inr (Or.inr (Or.inr (Or.inr (Or.inr (Or.inr (Or.inl ?_)))))); omega) | (refine Or.inr (Or.inr (Or.inr (Or.inr (Or.inr (Or.inr (Or.inr (Or.inl ?_))))))); omega) | (refine Or.inr (Or.inr (Or.inr (Or.inr (Or.inr (Or.inr (Or.inr (Or.inr ?_))))))); omega)
  simp
set_option maxHeartbeats 1000000 in
theorem inv_b2y (n : Nat) (st : Int) (q : Q) (h0 : 0 ≤ st) (h1 : st ≤ 59) (h : Inv n st q) (hb : q.pb = 2) (hc : st < q.come) :
    Inv n st { q with pb := 3 } ∧ psi n { q with pb := 3 } ≤ psi n q ∧ LessB { q with pb := 3 } q := by
  obtain ⟨a, c0, pa, got, pb, goes, W⟩ := q
  simp only at hb hc
  subst hb
  unfold Inv at *
  unfold psi LessB
  simp only at *
  try simp only [and_true, true_and] at h ⊢
  obtain ⟨h3, h2⟩ := h
  refine ⟨⟨by omega, ?_⟩, ?_, by omega⟩
  · rcases h2 with h2 | h2 | h2 | h2 | h2 | h2 | h2 | h2 | h2 <;> first | (exfalso; omega) | (refine Or.inl ?_; omega) | (refine Or.inr (Or.inl ?_); omega) | (refine Or.inr (Or.inr (Or.inl ?_)); omega) | (refine Or.inr (Or.inr (Or.inr (Or.inl ?_))); omega) | (refine Or.inr (Or.inr (Or.inr (Or.inr (Or.inl ?_)))); omega) | (refine Or.inr (Or.inr (Or.inr (Or.inr (Or.inr (Or.inl ?_))))); omega) | (refine Or.inr (Or.inr (Or.inr (Or.inr (Or.inr (Or.inr (Or.inl ?_)))))); omega) | (refine Or.inr (Or.inr (Or.inr (Or.inr (Or.inr (Or.inr (Or.inr (Or.inl ?_))))))); omega) | (refine Or.inr (Or.inr (Or.inr (Or.inr (Or.inr (Or.inr (Or.inr (Or.inr ?_))))))); omega)
  simp
set_option maxHeartbeats 1000000 in
theorem inv_b3y (n : Nat) (st : Int) (q : Q) (h0 : 0 ≤ st) (h1 : st ≤ 59) (h : Inv n st q) (hb : q.pb = 3) (hw : q.W = 1) :
    Inv n st { q with pb := 4, goes := q.goes + 1, W := 0 } ∧ psi n { q with pb := 4, goes := q.goes + 1, W := 0 } ≤ psi n q ∧ LessB { q with pb := 4, goes := q.goes + 1, W := 0 } q := by
  obtain ⟨a, c0, pa, got, pb, goes, W⟩ := q
  simp only at hb hw
  subst hb hw
  unfold Inv at *
  unfold psi LessB
  simp only at *
  try simp only [and_true, true_and] at h ⊢
  obtain ⟨h3, h2⟩ := h
  refine ⟨⟨by omega, ?_⟩, ?_, by omega⟩
  · rcases h2 with h2 | h2 | h2 | h2 | h2 | h2 | h2 | h2 | h2 <;> first | (exfalso; omega) | (refine Or.inl ?_; omega) | (refine Or.inr (Or.inl ?_); omega) | (refine Or.inr (Or.inr (Or.inl ?_)); omega) | (refine Or.inr (Or.inr (Or.inr (Or.inl ?_))); omega) | (refine Or.inr (Or.inr (Or.inr (Or.inr (Or.inl ?_)))); omega) | (refine Or.inr (Or.inr (Or.inr (Or.inr (Or.inr (Or.inl ?_))))); omega) | (refine Or.inr (Or.inr (Or.inr (Or.inr (Or.inr (Or.inr (Or.inl ?_)))))); omega) | (refine Or.inr (Or.inr (Or.inr (Or.inr (Or.inr (Or.inr (Or.inr (Or.inl ?_))))))); omega) | (refine Or.inr (Or.inr (Or.inr (Or.inr (Or.inr (Or.inr (Or.inr (Or.inr ?_))))))); omega)
  simp
  split
  · omega
  · split <;> omega
set_option maxHeartbeats 1000000 in
theorem inv_b3n (n : Nat) (st : Int) (q : Q) (h0 : 0 ≤ st) (h1 : st ≤ 59) (h : Inv n st q) (hb : q.pb = 3) (hw : q.W = 0) :
    Inv n st { q with pb := 4 } ∧ psi n { q with pb := 4 } ≤ psi n q ∧ LessB { q with pb := 4 } q := by
  obtain ⟨a, c0, pa, got, pb, goes, W⟩ := q
  simp only at hb hw
  subst hb hw
  unfold Inv at *
  unfold psi LessB
  simp only at *
  try simp only [and_true, true_and] at h ⊢
  obtain ⟨h3, h2⟩ := h
  refine ⟨⟨by omega, ?_⟩, ?_, by omega⟩
  · rcases h2 with h2 | h2 | h2 | h2 | h2 | h2 | h2 | h2 | h2 <;> first | (exfalso; omega) | (refine Or.inl ?_; omega) | (refine Or.inr (Or.inl ?_); omega) | (refine Or.inr (Or.inr (Or.inl ?_)); omega) | (refine Or.inr (Or.inr (Or.inr (Or.inl ?_))); omega) | (refine Or.inr (Or.inr (Or.inr (Or.inr (Or.inl ?_)))); omega) | (refine Or.inr (Or.inr (Or.inr (Or.inr (Or.inr (Or.inl ?_))))); omega) | (refine Or.inr (Or.inr (Or.inr (Or.inr (Or.inr (Or.inr (Or.inl ?_)))))); omega) | (refine Or.inr (Or.inr (Or.inr (Or.inr (Or.inr (Or.inr (Or.inr (Or.inl ?_))))))); omega) | (refine Or.inr (Or.inr (Or.inr (Or.inr (Or.inr (Or.inr (Or.inr (Or.inr ?_))))))); omega)
  simp
set_option maxHeartbeats 1000000 in
theorem inv_end (n : Nat) (st : Int) (q : Q) (h0 : 0 ≤ st) (h1 : st ≤ 59) (h : Inv n st q) (hp : psi n q = 0) (hb : q.pb = 4) : q.got + q.goes = 1 ∧ q.at_ = n + 1 := by
  obtain ⟨a, c0, pa, got, pb, goes, W⟩ := q
  simp only at hb
  subst hb
  unfold Inv at h
  unfold psi at hp
  simp only at *
  have hpa : pa = 0 := by
    by_cases e : pa = 0
    · exact e
    · rw [if_neg e] at hp
      split at hp <;> (try split at hp) <;> omega
  subst hpa
  simp at hp
  omega
set_option maxHeartbeats 1000000 in
theorem inv_ok (n : Nat) (st : Int) (q : Q) (h0 : 0 ≤ st) (h1 : st ≤ 59) (h : Inv n st q) : 0 ≤ q.got ∧ 0 ≤ q.goes ∧ (q.got + q.goes = 0 ∨ q.got + q.goes = 1 ∧ st < q.come) := by
  unfold Inv at h
  omega
theorem psi_start (n : Nat) (hn : n ≤ 60) : psi n ⟨0, 0, 0, 0, 0, 0, 0⟩ ≤ 124 := by
  unfold psi
  simp
  omega
set_option maxHeartbeats 1000000 in
theorem inv_start (n : Nat) (st : Int) : Inv n st ⟨0, 0, 0, 0, 0, 0, 0⟩ := by
  unfold Inv
  simp
end Go.Proofs.Ytegbifphekhgkaa
