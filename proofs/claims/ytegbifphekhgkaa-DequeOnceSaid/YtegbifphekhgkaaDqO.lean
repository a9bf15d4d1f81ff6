/- A deque that one owner and three thieves play at: what holds at each step, whatever the order (layer 13). -/
import Derived.Test.YtegbifphekhgkaaDqA
namespace Go.Proofs.Ytegbifphekhgkaa.DO
/-- where an agent stands. -/
inductive Pc where
  | idle
  | pushLook | pushPut | pushShow
  | popClaim | popLook | popYield | popAsk | popWait | popClaimAgain | popLookAgain | popLeave | popYieldAgain | popGiveUp | popTake
  | ask | wait | look | claim | check | yield | take | leave
  deriving DecidableEq
structure Ag where
  pc : Pc
  tl : Int
  x : Int
  hd : Int
  tn : Int
  gt : Int
  hs : Bool
  fl : Bool
structure Mem where
  h : Int
  t : Int
  tk : Int
  sv : Int
  sl : Nat → Int
/-- it has a number, and has not left. -/
def tick : Pc → Bool
  | .popWait | .popClaimAgain | .popLookAgain | .popLeave | .popYieldAgain | .popGiveUp | .wait | .look | .claim | .check | .yield | .take | .leave => true
  | _ => false
/-- it is its turn. -/
def lock : Pc → Bool
  | .popClaimAgain | .popLookAgain | .popLeave | .popYieldAgain | .popGiveUp | .look | .claim | .check | .yield | .take | .leave => true
  | _ => false
theorem tick_of_lock {p : Pc} (h : lock p = true) : tick p = true := by cases p <;> simp_all [lock, tick]
def low : Pc → Bool
  | .popLook | .popYield | .popLookAgain | .popLeave | .popYieldAgain | .popTake => true
  | _ => false
def clm : Pc → Bool
  | .check | .yield | .take => true
  | _ => false
def ofOwner : Pc → Bool
  | .ask | .wait | .look | .claim | .check | .yield | .take | .leave => false
  | _ => true
def ofThief : Pc → Bool
  | .idle | .ask | .wait | .look | .claim | .check | .yield | .take | .leave => true
  | _ => false
def upd (ag : Nat → Ag) (k : Nat) (a : Ag) : Nat → Ag := fun j => if j = k then a else ag j
theorem upd_same (ag : Nat → Ag) (k : Nat) (a : Ag) : upd ag k a k = a := by simp [upd]
theorem upd_other (ag : Nat → Ag) (k j : Nat) (a : Ag) (h : j ≠ k) : upd ag k a j = ag j := by simp [upd, h]
/-- the lock. -/
structure Lk (tk sv : Int) (ag : Nat → Ag) : Prop where
  rg : ∀ k < 4, tick (ag k).pc = true → sv ≤ (ag k).tn ∧ (ag k).tn < tk
  ne : ∀ j < 4, ∀ k < 4, j ≠ k → tick (ag j).pc = true → tick (ag k).pc = true → (ag j).tn ≠ (ag k).tn
  lk : ∀ k < 4, lock (ag k).pc = true → (ag k).tn = sv
  all : ∀ n, sv ≤ n → n < tk → ∃ k < 4, tick (ag k).pc = true ∧ (ag k).tn = n
theorem Lk.one {tk sv : Int} {ag : Nat → Ag} (h : Lk tk sv ag) {j k : Nat} (hj : j < 4) (hk : k < 4) (hn : j ≠ k) (h1 : lock (ag j).pc = true) (h2 : lock (ag k).pc = true) : False :=
  h.ne j hj k hk hn (tick_of_lock h1) (tick_of_lock h2) ((h.lk j hj h1).trans (h.lk k hk h2).symm)
theorem Lk.keep {tk sv : Int} {ag : Nat → Ag} (h : Lk tk sv ag) (k : Nat) (hk : k < 4) (a : Ag) (ht : tick a.pc = tick (ag k).pc) (hn : tick a.pc = true → a.tn = (ag k).tn) (hl : lock a.pc = true → a.tn = sv) : Lk tk sv (upd ag k a) := by
  refine ⟨fun j hj => ?_, fun i hi j hj hij => ?_, fun j hj => ?_, fun n h1 h2 => ?_⟩
  · by_cases e : j = k
    · subst e; rw [upd_same]; intro h3; rw [hn h3]; exact h.rg j hj (ht ▸ h3)
    · rw [upd_other _ _ _ _ e]; exact h.rg j hj
  · by_cases e : i = k
    · subst e
      rw [upd_same, upd_other _ _ _ _ (Ne.symm hij)]
      intro h3 h4; rw [hn h3]; exact h.ne i hi j hj hij (ht ▸ h3) h4
    · rw [upd_other _ _ _ _ e]
      by_cases e' : j = k
      · subst e'; rw [upd_same]; intro h3 h4; rw [hn h4]; exact h.ne i hi j hj hij h3 (ht ▸ h4)
      · rw [upd_other _ _ _ _ e']; exact h.ne i hi j hj hij
  · by_cases e : j = k
    · subst e; rw [upd_same]; exact hl
    · rw [upd_other _ _ _ _ e]; exact h.lk j hj
  · obtain ⟨j, hj, h3, h4⟩ := h.all n h1 h2
    refine ⟨j, hj, ?_⟩
    by_cases e : j = k
    · subst e; rw [upd_same]; exact ⟨ht ▸ h3, (hn (ht ▸ h3)).trans h4⟩
    · rw [upd_other _ _ _ _ e]; exact ⟨h3, h4⟩
theorem Lk.ask {tk sv : Int} {ag : Nat → Ag} (h : Lk tk sv ag) (h0 : sv ≤ tk) (k : Nat) (hk : k < 4) (a : Ag) (ht : tick (ag k).pc = false) (h1 : tick a.pc = true) (h2 : lock a.pc = false) (hn : a.tn = tk) : Lk (tk + 1) sv (upd ag k a) := by
  refine ⟨fun j hj => ?_, fun i hi j hj hij => ?_, fun j hj => ?_, fun n h3 h4 => ?_⟩
  · by_cases e : j = k
    · subst e; rw [upd_same]; intro _; omega
    · rw [upd_other _ _ _ _ e]; intro h5; have := h.rg j hj h5; omega
  · by_cases e : i = k
    · subst e
      rw [upd_same, upd_other _ _ _ _ (Ne.symm hij)]
      intro _ h5; have := h.rg j hj h5; omega
    · rw [upd_other _ _ _ _ e]
      by_cases e' : j = k
      · subst e'; rw [upd_same]; intro h5 _; have := h.rg i hi h5; omega
      · rw [upd_other _ _ _ _ e']; exact h.ne i hi j hj hij
  · by_cases e : j = k
    · subst e; rw [upd_same, h2]; intro h5; cases h5
    · rw [upd_other _ _ _ _ e]; exact h.lk j hj
  · by_cases e : n = tk
    · exact ⟨k, hk, by rw [upd_same]; exact ⟨h1, hn.trans e.symm⟩⟩
    · obtain ⟨j, hj, h5, h6⟩ := h.all n h3 (by omega)
      refine ⟨j, hj, ?_⟩
      by_cases e' : j = k
      · subst e'; rw [ht] at h5; cases h5
      · rw [upd_other _ _ _ _ e']; exact ⟨h5, h6⟩
theorem Lk.leave {tk sv : Int} {ag : Nat → Ag} (h : Lk tk sv ag) (k : Nat) (hk : k < 4) (a : Ag) (hl : lock (ag k).pc = true) (ha : tick a.pc = false) : Lk tk (sv + 1) (upd ag k a) := by
  have hlk := h.lk k hk hl
  have ht := tick_of_lock hl
  have hal : lock a.pc = false := by
    cases e : lock a.pc
    · rfl
    · rw [tick_of_lock e] at ha; cases ha
  have hne : ∀ j < 4, j ≠ k → tick (ag j).pc = true → (ag j).tn ≠ sv := fun j hj e h3 => by rw [← hlk]; exact h.ne j hj k hk e h3 ht
  refine ⟨fun j hj => ?_, fun i hi j hj hij => ?_, fun j hj => ?_, fun n h1 h2 => ?_⟩
  · by_cases e : j = k
    · subst e; rw [upd_same, ha]; intro h3; cases h3
    · rw [upd_other _ _ _ _ e]; intro h3; have := h.rg j hj h3; have := hne j hj e h3; omega
  · by_cases e : i = k
    · subst e; rw [upd_same, ha]; intro h3; cases h3
    · rw [upd_other _ _ _ _ e]
      by_cases e' : j = k
      · subst e'; rw [upd_same, ha]; intro _ h3; cases h3
      · rw [upd_other _ _ _ _ e']; exact h.ne i hi j hj hij
  · by_cases e : j = k
    · subst e; rw [upd_same, hal]; intro h3; cases h3
    · rw [upd_other _ _ _ _ e]; intro h3; exact absurd (h.lk j hj h3) (hne j hj e (tick_of_lock h3))
  · obtain ⟨j, hj, h3, h4⟩ := h.all n (by omega) h2
    have e : j ≠ k := by rintro rfl; omega
    exact ⟨j, hj, by rw [upd_other _ _ _ _ e]; exact ⟨h3, h4⟩⟩

structure Ps where
  H : Nat
  T : Nat
  L : Nat
  el : Nat → Int
  nx : Nat
  pops : Bool
  pushed : List Int
  popped : List Int
  stolen : List Int
  stack : List Int
/-- what holds of the lists. -/
structure Ls (p : Ps) : Prop where
  LH : p.L ≤ p.H
  HT : p.H ≤ p.T
  n1 : 1 ≤ p.nx
  st : p.stack = (List.range' p.L (p.T - p.L)).map p.el
  asc : ∀ i j, i < j → j < p.T → p.el i < p.el j
  rg : ∀ j, j < p.T → 1 ≤ p.el j ∧ p.el j < p.nx
  pu : p.pushed = (List.range (p.nx - 1)).map fun (i : Nat) => (i : Int) + 1
  po : ∀ v ∈ p.popped, 1 ≤ v ∧ v < p.nx ∧ ∀ j, j < p.T → p.el j ≠ v
  cnt : p.popped.length + p.T = p.nx - 1
/-- what holds of a thief. -/
structure ThA (H T : Nat) (a : Ag) : Prop where
  of : ofThief a.pc = true
  hd : a.pc = .claim ∨ a.pc = .check ∨ a.pc = .yield ∨ a.pc = .take → a.hd = H
  tk : a.pc = .take → H + 1 ≤ T
  hs : a.pc ≠ .leave → a.pc ≠ .idle → a.hs = false
/-- what holds of the owner. -/
structure OwA (D : Nat) (sl : Nat → Int) (p : Ps) (a : Ag) : Prop where
  of : ofOwner a.pc = true
  tl : a.pc ≠ .idle → a.tl = p.T
  one : a.pc = .popLeave ∨ a.pc = .popTake → p.H + 1 ≤ p.T
  no : a.pc = .popYieldAgain ∨ a.pc = .popGiveUp → p.H = p.T
  rm : a.pc = .pushPut ∨ a.pc = .pushShow → p.T + 1 ≤ p.H + D
  pt : a.pc = .pushShow → sl (p.T % D) = a.x
  hs : a.pc ≠ .idle → a.hs = false
  fl : a.pc ≠ .idle → a.fl = false
  wx : a.pc = .pushLook ∨ a.pc = .pushPut ∨ a.pc = .pushShow → a.x = p.nx ∧ p.pops = false
  wp : a.pc = .idle ∨ a.pc = .pushLook ∨ a.pc = .pushPut ∨ a.pc = .pushShow ∨ p.pops = true
structure Inv (D : Nat) (m : Mem) (ag : Nat → Ag) (p : Ps) : Prop where
  D2 : 2 ≤ D
  lk : Lk m.tk m.sv ag
  le : m.sv ≤ m.tk
  th : ∀ k, 1 ≤ k → k < 4 → ThA p.H p.T (ag k)
  ow : OwA D m.sl p (ag 0)
  cr : ∀ k, 1 ≤ k → k < 4 → (ag k).pc = .take → (ag 0).pc = .popLeave ∨ (ag 0).pc = .popTake → p.H + 2 ≤ p.T
  hc : ∀ k, 1 ≤ k → k < 4 → clm (ag k).pc = true → m.h = p.H + 1
  h0 : m.h = p.H ∨ (m.h = p.H + 1 ∧ ∃ k, 1 ≤ k ∧ k < 4 ∧ clm (ag k).pc = true)
  t : m.t = (p.T : Int) - (if low (ag 0).pc then 1 else 0)
  sl : ∀ j, p.H ≤ j → j < p.T → m.sl (j % D) = p.el j
  TD : p.T ≤ p.H + D
  pd1 : ∀ k, 1 ≤ k → k < 4 → (ag k).pc = .leave → (ag k).hs = true → p.stolen ++ [(ag k).gt] = (List.range p.H).map p.el
  pd0 : (∀ k, 1 ≤ k → k < 4 → ¬ ((ag k).pc = .leave ∧ (ag k).hs = true)) → p.stolen = (List.range p.H).map p.el
  ls : Ls p
theorem clm_lock {q : Pc} (h : clm q = true) : lock q = true := by cases q <;> simp_all [clm, lock]
/-- Another thief that stands at a claim: then k does not hold the lock. -/
theorem Inv.alone {D : Nat} {m : Mem} {ag : Nat → Ag} {p : Ps} (h : Inv D m ag p) {k : Nat} (hk : k < 4) (hl : lock (ag k).pc = true) {j : Nat} (hj : j < 4) (hn : j ≠ k) : lock (ag j).pc = false := by
  cases e : lock (ag j).pc
  · rfl
  · exact (h.lk.one hj hk hn e hl).elim
theorem Inv.thief {D : Nat} {m : Mem} {ag : Nat → Ag} {p : Ps} (h : Inv D m ag p) (k : Nat) (k1 : 1 ≤ k) (k4 : k < 4) (a : Ag) (h' tk' sv' : Int)
    (lk' : Lk tk' sv' (upd ag k a)) (le' : sv' ≤ tk') (ta : ThA p.H p.T a)
    (cr' : a.pc = .take → (ag 0).pc = .popLeave ∨ (ag 0).pc = .popTake → p.H + 2 ≤ p.T)
    (hh : (clm a.pc = true ∧ lock (ag k).pc = true ∧ h' = p.H + 1) ∨ (clm a.pc = false ∧ clm (ag k).pc = true ∧ h' = p.H) ∨ (clm a.pc = false ∧ clm (ag k).pc = false ∧ h' = m.h))
    (n1 : ¬ (a.pc = .leave ∧ a.hs = true)) (n0 : ¬ ((ag k).pc = .leave ∧ (ag k).hs = true)) :
    Inv D { m with h := h', tk := tk', sv := sv' } (upd ag k a) p := by
  have k0 : (0 : Nat) ≠ k := by omega
  have e0 : upd ag k a 0 = ag 0 := upd_other _ _ _ _ k0
  refine ⟨h.D2, lk', le', fun j j1 j4 => ?_, by rw [e0]; exact h.ow, fun j j1 j4 => ?_, fun j j1 j4 => ?_, ?_, by rw [e0]; exact h.t, h.sl, h.TD, fun j j1 j4 => ?_, fun H => h.pd0 fun j j1 j4 => ?_, h.ls⟩
  · by_cases e : j = k
    · subst e; rw [upd_same]; exact ta
    · rw [upd_other _ _ _ _ e]; exact h.th j j1 j4
  · rw [e0]
    by_cases e : j = k
    · subst e; rw [upd_same]; exact cr'
    · rw [upd_other _ _ _ _ e]; exact h.cr j j1 j4
  · by_cases e : j = k
    · subst e; rw [upd_same]; intro hc
      rcases hh with ⟨_, _, h3⟩ | ⟨h1, _⟩ | ⟨h1, _⟩
      · exact h3
      · rw [h1] at hc; cases hc
      · rw [h1] at hc; cases hc
    · rw [upd_other _ _ _ _ e]; intro hc
      rcases hh with ⟨_, h2, h3⟩ | ⟨_, h2, _⟩ | ⟨_, _, h3⟩
      · exact h3
      · have := h.alone k4 (clm_lock h2) j4 e; rw [clm_lock hc] at this; cases this
      · exact h3.trans (h.hc j j1 j4 hc)
  · rcases hh with ⟨h1, _, h3⟩ | ⟨_, _, h3⟩ | ⟨_, h2, h3⟩
    · exact Or.inr ⟨h3, k, k1, k4, by rw [upd_same]; exact h1⟩
    · exact Or.inl h3
    · rcases h.h0 with h4 | ⟨h4, j, j1, j4, hj⟩
      · exact Or.inl (h3.trans h4)
      · have e : j ≠ k := by rintro rfl; rw [h2] at hj; cases hj
        exact Or.inr ⟨h3.trans h4, j, j1, j4, by rw [upd_other _ _ _ _ e]; exact hj⟩
  · by_cases e : j = k
    · subst e; rw [upd_same]; intro h1 h2; exact absurd ⟨h1, h2⟩ n1
    · rw [upd_other _ _ _ _ e]; exact h.pd1 j j1 j4
  · by_cases e : j = k
    · subst e; exact n0
    · have := H j j1 j4; rw [upd_other _ _ _ _ e] at this; exact this
section thief
variable {D : Nat} {m : Mem} {ag : Nat → Ag} {p : Ps} (h : Inv D m ag p) (k : Nat) (k1 : 1 ≤ k) (k4 : k < 4)
include h k1 k4
theorem t_begin (a : Ag) (hp : (ag k).pc = .idle) (ha : a.pc = .ask) (hs : a.hs = false) : Inv D m (upd ag k a) p :=
  h.thief k k1 k4 a m.h m.tk m.sv (h.lk.keep k k4 a (by simp [ha, hp, tick]) (by simp [ha, tick]) (by simp [ha, lock])) h.le ⟨by simp [ha, ofThief], by simp [ha], by simp [ha], fun _ _ => hs⟩ (by simp [ha]) (Or.inr (Or.inr ⟨by simp [ha, clm], by simp [hp, clm], rfl⟩)) (by simp [ha]) (by simp [hp])
theorem t_ask (hp : (ag k).pc = .ask) : Inv D { m with tk := m.tk + 1 } (upd ag k { ag k with pc := .wait, tn := m.tk }) p :=
  h.thief k k1 k4 _ m.h (m.tk + 1) m.sv (h.lk.ask h.le k k4 _ (by simp [hp, tick]) rfl rfl rfl) (by have := h.le; omega) ⟨rfl, by simp, by simp, fun _ _ => (h.th k k1 k4).hs (by simp [hp]) (by simp [hp])⟩ (by simp) (Or.inr (Or.inr ⟨rfl, by simp [hp, clm], rfl⟩)) (by simp) (by simp [hp])
theorem t_wait (hp : (ag k).pc = .wait) (ht : m.sv = (ag k).tn) : Inv D m (upd ag k { ag k with pc := .look }) p :=
  h.thief k k1 k4 _ m.h m.tk m.sv (h.lk.keep k k4 _ (by simp [hp, tick]) (fun _ => rfl) (fun _ => ht.symm)) h.le ⟨rfl, by simp, by simp, fun _ _ => (h.th k k1 k4).hs (by simp [hp]) (by simp [hp])⟩ (by simp) (Or.inr (Or.inr ⟨rfl, by simp [hp, clm], rfl⟩)) (by simp) (by simp [hp])
/-- A thief that holds the lock and has claimed nothing finds how many have gone. -/
theorem head_is (hl : lock (ag k).pc = true) (hc : clm (ag k).pc = false) : m.h = p.H := by
  rcases h.h0 with h1 | ⟨_, j, j1, j4, hj⟩
  · exact h1
  · have e : j ≠ k := by rintro rfl; rw [hc] at hj; cases hj
    have := h.alone k4 hl j4 e
    rw [clm_lock hj] at this; cases this
theorem t_look (hp : (ag k).pc = .look) : Inv D m (upd ag k { ag k with pc := .claim, hd := m.h }) p :=
  have hh := head_is h k k1 k4 (by simp [hp, lock]) (by simp [hp, clm])
  h.thief k k1 k4 _ m.h m.tk m.sv (h.lk.keep k k4 _ (by simp [hp, tick]) (fun _ => rfl) (fun _ => h.lk.lk k k4 (by simp [hp, lock]))) h.le ⟨rfl, fun _ => hh, by simp, fun _ _ => (h.th k k1 k4).hs (by simp [hp]) (by simp [hp])⟩ (by simp) (Or.inr (Or.inr ⟨rfl, by simp [hp, clm], rfl⟩)) (by simp) (by simp [hp])
theorem t_claim (hp : (ag k).pc = .claim) : Inv D { m with h := (ag k).hd + 1 } (upd ag k { ag k with pc := .check }) p :=
  have hd := (h.th k k1 k4).hd (by simp [hp])
  h.thief k k1 k4 _ _ m.tk m.sv (h.lk.keep k k4 _ (by simp [hp, tick]) (fun _ => rfl) (fun _ => h.lk.lk k k4 (by simp [hp, lock]))) h.le ⟨rfl, fun _ => hd, by simp, fun _ _ => (h.th k k1 k4).hs (by simp [hp]) (by simp [hp])⟩ (by simp) (Or.inl ⟨rfl, by simp [hp, lock], by rw [hd]⟩) (by simp) (by simp [hp])
theorem t_check_yes (hp : (ag k).pc = .check) : Inv D m (upd ag k { ag k with pc := .yield }) p :=
  have hd := (h.th k k1 k4).hd (by simp [hp])
  h.thief k k1 k4 _ _ m.tk m.sv (h.lk.keep k k4 _ (by simp [hp, tick]) (fun _ => rfl) (fun _ => h.lk.lk k k4 (by simp [hp, lock]))) h.le ⟨rfl, fun _ => hd, by simp, fun _ _ => (h.th k k1 k4).hs (by simp [hp]) (by simp [hp])⟩ (by simp) (Or.inl ⟨rfl, by simp [hp, lock], h.hc k k1 k4 (by simp [hp, clm])⟩) (by simp) (by simp [hp])
theorem t_check_no (hp : (ag k).pc = .check) (ht : ¬ m.t ≤ (ag k).hd) : Inv D m (upd ag k { ag k with pc := .take }) p :=
  have hd := (h.th k k1 k4).hd (by simp [hp])
  have tt := h.t
  h.thief k k1 k4 _ _ m.tk m.sv (h.lk.keep k k4 _ (by simp [hp, tick]) (fun _ => rfl) (fun _ => h.lk.lk k k4 (by simp [hp, lock]))) h.le ⟨rfl, fun _ => hd, fun _ => by split at tt <;> omega, fun _ _ => (h.th k k1 k4).hs (by simp [hp]) (by simp [hp])⟩
    (by intro _ ho; rcases ho with ho | ho <;> (rw [ho] at tt; simp [low] at tt; omega)) (Or.inl ⟨rfl, by simp [hp, lock], h.hc k k1 k4 (by simp [hp, clm])⟩) (by simp) (by simp [hp])
theorem t_yield (hp : (ag k).pc = .yield) : Inv D { m with h := (ag k).hd } (upd ag k { ag k with pc := .leave }) p :=
  have hd := (h.th k k1 k4).hd (by simp [hp])
  have hs := (h.th k k1 k4).hs (by simp [hp]) (by simp [hp])
  h.thief k k1 k4 _ _ m.tk m.sv (h.lk.keep k k4 _ (by simp [hp, tick]) (fun _ => rfl) (fun _ => h.lk.lk k k4 (by simp [hp, lock]))) h.le ⟨rfl, by simp, by simp, by simp⟩ (by simp) (Or.inr (Or.inl ⟨rfl, by simp [hp, clm], hd⟩)) (by simp [hs]) (by simp [hp])
theorem t_leave (hp : (ag k).pc = .leave) (hs : (ag k).hs = false) : Inv D { m with sv := m.sv + 1 } (upd ag k { ag k with pc := .idle }) p :=
  h.thief k k1 k4 _ m.h m.tk (m.sv + 1) (h.lk.leave k k4 _ (by simp [hp, lock]) rfl) (by have := h.lk.rg k k4 (by simp [hp, tick]); have := h.lk.lk k k4 (by simp [hp, lock]); show m.sv + 1 ≤ m.tk; omega) ⟨rfl, by simp, by simp, by simp⟩ (by simp) (Or.inr (Or.inr ⟨rfl, by simp [hp, clm], rfl⟩)) (by simp) (by simp [hs])
end thief

theorem pc_ne {q r : Pc} (h : q = r) (h1 : lock q = false) (h2 : lock r = true) : False := by rw [h, h2] at h1; cases h1
theorem t_take {D : Nat} {m : Mem} {ag : Nat → Ag} {p : Ps} (h : Inv D m ag p) (k : Nat) (k1 : 1 ≤ k) (k4 : k < 4) (hp : (ag k).pc = .take) :
    Inv D m (upd ag k { ag k with gt := m.sl (p.H % D), hs := true, pc := .leave }) { p with H := p.H + 1 } := by
  have hl : lock (ag k).pc = true := by simp [hp, lock]
  have hT := (h.th k k1 k4).tk hp
  have no : ∀ j < 4, j ≠ k → lock (ag j).pc = false := fun j j4 e => h.alone k4 hl j4 e
  have k0 : (0 : Nat) ≠ k := by omega
  have e0 : ∀ a, upd ag k a 0 = ag 0 := fun a => upd_other _ _ _ _ k0
  have n0 := no 0 (by omega) k0
  have hs : p.stolen = (List.range p.H).map p.el := h.pd0 fun j j1 j4 ⟨h1, h2⟩ => by
    by_cases e : j = k
    · subst e; rw [hp] at h1; cases h1
    · exact pc_ne h1 (no j j4 e) rfl
  refine ⟨h.D2, h.lk.keep k k4 _ (by simp [hp, tick]) (fun _ => rfl) (fun _ => h.lk.lk k k4 hl), h.le, fun j j1 j4 => ?_, ?_, fun j j1 j4 => ?_, fun j j1 j4 => ?_, Or.inl ?_, by rw [e0]; exact h.t, fun j h1 h2 => h.sl j (by simp at h1; omega) h2, by have := h.TD; show p.T ≤ p.H + 1 + D; omega, fun j j1 j4 => ?_, fun H => ?_, ?_⟩
  · by_cases e : j = k
    · subst e; rw [upd_same]; exact ⟨rfl, by simp, by simp, by simp⟩
    · rw [upd_other _ _ _ _ e]
      have := h.th j j1 j4
      refine ⟨this.of, fun hj => ?_, fun hj => (pc_ne hj (no j j4 e) rfl).elim, this.hs⟩
      rcases hj with hj | hj | hj | hj <;> exact (pc_ne hj (no j j4 e) rfl).elim
  · rw [e0]
    have := h.ow
    refine ⟨this.of, this.tl, fun ho => by have := h.cr k k1 k4 hp ho; show p.H + 1 + 1 ≤ p.T; omega, fun ho => ?_, fun ho => by have := this.rm ho; show p.T + 1 ≤ p.H + 1 + D; omega, this.pt, this.hs, this.fl, this.wx, this.wp⟩
    rcases ho with ho | ho <;> exact (pc_ne ho n0 rfl).elim
  · by_cases e : j = k
    · subst e; rw [upd_same]; simp
    · rw [upd_other _ _ _ _ e]; intro hj; exact (pc_ne hj (no j j4 e) rfl).elim
  · by_cases e : j = k
    · subst e; rw [upd_same]; simp [clm]
    · rw [upd_other _ _ _ _ e]; intro hj; have := clm_lock hj; rw [no j j4 e] at this; cases this
  · have := h.hc k k1 k4 (by simp [hp, clm]); show m.h = ((p.H + 1 : Nat) : Int); omega
  · by_cases e : j = k
    · subst e; rw [upd_same]; intro _ _
      show p.stolen ++ [m.sl (p.H % D)] = (List.range (p.H + 1)).map p.el
      rw [h.sl p.H (Nat.le_refl _) (by omega), List.range_succ, List.map_append, ← hs]; rfl
    · rw [upd_other _ _ _ _ e]; intro hj; exact (pc_ne hj (no j j4 e) rfl).elim
  · exact absurd ⟨by rw [upd_same], by rw [upd_same]⟩ (H k k1 k4)
  · exact ⟨by have := h.ls.LH; show p.L ≤ p.H + 1; omega, hT, h.ls.n1, h.ls.st, h.ls.asc, h.ls.rg, h.ls.pu, h.ls.po, h.ls.cnt⟩
theorem t_left {D : Nat} {m : Mem} {ag : Nat → Ag} {p : Ps} (h : Inv D m ag p) (k : Nat) (k1 : 1 ≤ k) (k4 : k < 4) (hp : (ag k).pc = .leave) (hs : (ag k).hs = true) :
    Inv D { m with sv := m.sv + 1 } (upd ag k { ag k with pc := .idle }) { p with stolen := p.stolen ++ [(ag k).gt] } := by
  have hl : lock (ag k).pc = true := by simp [hp, lock]
  have no : ∀ j < 4, j ≠ k → lock (ag j).pc = false := fun j j4 e => h.alone k4 hl j4 e
  have k0 : (0 : Nat) ≠ k := by omega
  have e0 : ∀ a, upd ag k a 0 = ag 0 := fun a => upd_other _ _ _ _ k0
  refine ⟨h.D2, h.lk.leave k k4 _ hl rfl, by have := h.lk.rg k k4 (by simp [hp, tick]); have := h.lk.lk k k4 hl; show m.sv + 1 ≤ m.tk; omega, fun j j1 j4 => ?_, ?_, fun j j1 j4 => ?_, fun j j1 j4 => ?_, ?_, by rw [e0]; exact h.t, h.sl, h.TD, fun j j1 j4 => ?_, fun H => h.pd1 k k1 k4 hp hs, ?_⟩
  · by_cases e : j = k
    · subst e; rw [upd_same]; exact ⟨rfl, by simp, by simp, by simp⟩
    · rw [upd_other _ _ _ _ e]; exact h.th j j1 j4
  · rw [e0]; exact ⟨h.ow.of, h.ow.tl, h.ow.one, h.ow.no, h.ow.rm, h.ow.pt, h.ow.hs, h.ow.fl, h.ow.wx, h.ow.wp⟩
  · by_cases e : j = k
    · subst e; rw [upd_same]; simp
    · rw [upd_other _ _ _ _ e]; intro hj; exact (pc_ne hj (no j j4 e) rfl).elim
  · by_cases e : j = k
    · subst e; rw [upd_same]; simp [clm]
    · rw [upd_other _ _ _ _ e]; intro hj; have := clm_lock hj; rw [no j j4 e] at this; cases this
  · have hh := head_is h k k1 k4 hl (by simp [hp, clm])
    exact Or.inl hh
  · by_cases e : j = k
    · subst e; rw [upd_same]; simp
    · rw [upd_other _ _ _ _ e]; intro hj; exact (pc_ne hj (no j j4 e) rfl).elim
  · exact ⟨h.ls.LH, h.ls.HT, h.ls.n1, h.ls.st, h.ls.asc, h.ls.rg, h.ls.pu, h.ls.po, h.ls.cnt⟩
theorem owner_not {q : Pc} (h : ofOwner q = true) : clm q = false := by cases q <;> simp_all [clm, ofOwner]
/-- The owner steps: what it must keep. -/
theorem Inv.owner {D : Nat} {m : Mem} {ag : Nat → Ag} {p : Ps} (h : Inv D m ag p) (a : Ag) (t' tk' sv' : Int) (sl' : Nat → Int) (p' : Ps)
    (hH : p'.H = p.H) (hst : p'.stolen = p.stolen) (hel : ∀ j, j < p.H → p'.el j = p.el j)
    (lk' : Lk tk' sv' (upd ag 0 a)) (le' : sv' ≤ tk') (ow : OwA D sl' p' a)
    (tk : ∀ k, 1 ≤ k → k < 4 → (ag k).pc = .take → p'.H + 1 ≤ p'.T)
    (cr : a.pc = .popLeave ∨ a.pc = .popTake → ∀ k, 1 ≤ k → k < 4 → (ag k).pc = .take → p'.H + 2 ≤ p'.T)
    (ht : t' = (p'.T : Int) - (if low a.pc then 1 else 0))
    (hsl : ∀ j, p'.H ≤ j → j < p'.T → sl' (j % D) = p'.el j) (TD : p'.T ≤ p'.H + D) (ls : Ls p') :
    Inv D { m with t := t', tk := tk', sv := sv', sl := sl' } (upd ag 0 a) p' := by
  have ej : ∀ j, 1 ≤ j → upd ag 0 a j = ag j := fun j j1 => upd_other _ _ _ _ (by omega)
  have hm : (List.range p'.H).map p'.el = (List.range p.H).map p.el := by
    rw [hH]; apply List.map_congr_left; intro j hj; exact hel j (List.mem_range.1 hj)
  refine ⟨h.D2, lk', le', fun j j1 j4 => ?_, by rw [upd_same]; exact ow, fun j j1 j4 => ?_, fun j j1 j4 => ?_, ?_, by rw [upd_same]; exact ht, hsl, TD, fun j j1 j4 => ?_, fun H => ?_, ls⟩
  · rw [ej j j1]
    have := h.th j j1 j4
    exact ⟨this.of, by rw [hH]; exact this.hd, tk j j1 j4, this.hs⟩
  · rw [ej j j1, upd_same]; intro h1 h2; exact cr h2 j j1 j4 h1
  · rw [ej j j1, hH]; exact h.hc j j1 j4
  · rw [hH]
    rcases h.h0 with h1 | ⟨h1, j, j1, j4, hj⟩
    · exact Or.inl h1
    · exact Or.inr ⟨h1, j, j1, j4, by rw [ej j j1]; exact hj⟩
  · rw [ej j j1, hst, hm]; exact h.pd1 j j1 j4
  · rw [hst, hm]; exact h.pd0 fun j j1 j4 => by have := H j j1 j4; rw [ej j j1] at this; exact this

theorem Ls.withPops {p : Ps} (h : Ls p) (b : Bool) : Ls { p with pops := b } := ⟨h.LH, h.HT, h.n1, h.st, h.asc, h.rg, h.pu, h.po, h.cnt⟩
theorem mod_apart {j T D : Nat} (h1 : j < T) (h2 : T < j + D) : j % D ≠ T % D := by
  intro e
  have := Nat.sub_mod_eq_zero_of_mod_eq e.symm
  rw [Nat.mod_eq_of_lt (by omega)] at this
  omega
section owner
variable {D : Nat} {m : Mem} {ag : Nat → Ag} {p : Ps} (h : Inv D m ag p)
include h
theorem head_le : (p.H : Int) ≤ m.h ∧ m.h ≤ p.H + 1 := by rcases h.h0 with h1 | ⟨h1, _⟩ <;> omega
theorem t_is (b : Bool) (hb : low (ag 0).pc = b) : m.t = (p.T : Int) - (if b then 1 else 0) := hb ▸ h.t
theorem o_push_begin (a : Ag) (hp : (ag 0).pc = .idle) (ha : a.pc = .pushLook) (ht : a.tl = p.T) (hx : a.x = p.nx) (hs : a.hs = false) (hf : a.fl = false) : Inv D m (upd ag 0 a) { p with pops := false } :=
  h.owner a m.t m.tk m.sv m.sl { p with pops := false } rfl rfl (fun _ _ => rfl) (h.lk.keep 0 (by omega) a (by simp [ha, hp, tick]) (by simp [ha, tick]) (by simp [ha, lock])) h.le
    ⟨by simp [ha, ofOwner], fun _ => ht, by simp [ha], by simp [ha], by simp [ha], by simp [ha], fun _ => hs, fun _ => hf, fun _ => ⟨hx, rfl⟩, Or.inr (Or.inl ha)⟩
    (fun k k1 k4 hk => (h.th k k1 k4).tk hk) (by simp [ha]) (by rw [ha]; exact t_is h false (by simp [hp, low])) h.sl h.TD (h.ls.withPops false)
theorem o_pop_begin (a : Ag) (hp : (ag 0).pc = .idle) (ha : a.pc = .popClaim) (ht : a.tl = p.T) (hs : a.hs = false) (hf : a.fl = false) : Inv D m (upd ag 0 a) { p with pops := true } :=
  h.owner a m.t m.tk m.sv m.sl { p with pops := true } rfl rfl (fun _ _ => rfl) (h.lk.keep 0 (by omega) a (by simp [ha, hp, tick]) (by simp [ha, tick]) (by simp [ha, lock])) h.le
    ⟨by simp [ha, ofOwner], fun _ => ht, by simp [ha], by simp [ha], by simp [ha], by simp [ha], fun _ => hs, fun _ => hf, by simp [ha], by simp⟩
    (fun k k1 k4 hk => (h.th k k1 k4).tk hk) (by simp [ha]) (by rw [ha]; exact t_is h false (by simp [hp, low])) h.sl h.TD (h.ls.withPops true)
theorem o_push_full (hp : (ag 0).pc = .pushLook) : Inv D m (upd ag 0 { ag 0 with fl := true, pc := .idle }) p :=
  h.owner _ m.t m.tk m.sv m.sl p rfl rfl (fun _ _ => rfl) (h.lk.keep 0 (by omega) _ (by simp [hp, tick]) (by simp [tick]) (by simp [lock])) h.le
    ⟨rfl, by simp, by simp, by simp, by simp, by simp, by simp, by simp, by simp, by simp⟩
    (fun k k1 k4 hk => (h.th k k1 k4).tk hk) (by simp) (t_is h false (by simp [hp, low])) h.sl h.TD h.ls
theorem o_push_look (hp : (ag 0).pc = .pushLook) (hc : ¬ m.h ≤ (ag 0).tl - ((D : Int) - 1)) : Inv D m (upd ag 0 { ag 0 with pc := .pushPut }) p :=
  have tl := h.ow.tl (by simp [hp])
  have hh := head_le h
  h.owner _ m.t m.tk m.sv m.sl p rfl rfl (fun _ _ => rfl) (h.lk.keep 0 (by omega) _ (by simp [hp, tick]) (by simp [tick]) (by simp [lock])) h.le
    ⟨rfl, fun _ => tl, by simp, by simp, fun _ => by omega, by simp, fun _ => h.ow.hs (by simp [hp]), fun _ => h.ow.fl (by simp [hp]), fun _ => h.ow.wx (by simp [hp]), by simp⟩
    (fun k k1 k4 hk => (h.th k k1 k4).tk hk) (by simp) (t_is h false (by simp [hp, low])) h.sl h.TD h.ls
theorem o_push_put (hp : (ag 0).pc = .pushPut) : Inv D { m with sl := fun j => if j = p.T % D then (ag 0).x else m.sl j } (upd ag 0 { ag 0 with pc := .pushShow }) p :=
  have tl := h.ow.tl (by simp [hp])
  have rm := h.ow.rm (by simp [hp])
  h.owner _ m.t m.tk m.sv _ p rfl rfl (fun _ _ => rfl) (h.lk.keep 0 (by omega) _ (by simp [hp, tick]) (by simp [tick]) (by simp [lock])) h.le
    ⟨rfl, fun _ => tl, by simp, by simp, fun _ => rm, by simp, fun _ => h.ow.hs (by simp [hp]), fun _ => h.ow.fl (by simp [hp]), fun _ => h.ow.wx (by simp [hp]), by simp⟩
    (fun k k1 k4 hk => (h.th k k1 k4).tk hk) (by simp) (t_is h false (by simp [hp, low]))
    (fun j h1 h2 => by simp only [mod_apart h2 (show p.T < j + D by omega), if_false]; exact h.sl j h1 h2) h.TD h.ls
theorem o_push_show (hp : (ag 0).pc = .pushShow) : Inv D { m with t := (ag 0).tl + 1 } (upd ag 0 { ag 0 with tl := (ag 0).tl + 1, pc := .idle })
    { p with T := p.T + 1, el := fun j => if j = p.T then p.nx else p.el j, nx := p.nx + 1, pushed := p.pushed ++ [(p.nx : Int)], stack := p.stack ++ [(p.nx : Int)] } := by
  have tl := h.ow.tl (by simp [hp])
  have rm := h.ow.rm (by simp [hp])
  have pt := h.ow.pt hp
  have wx := (h.ow.wx (by simp [hp])).1
  have LH := h.ls.LH
  have HT := h.ls.HT
  have n1 := h.ls.n1
  refine h.owner _ _ m.tk m.sv m.sl _ rfl rfl (fun j hj => ?_) (h.lk.keep 0 (by omega) _ (by simp [hp, tick]) (by simp [tick]) (by simp [lock])) h.le
    ⟨rfl, by simp, by simp, by simp, by simp, by simp, by simp, by simp, by simp, by simp⟩
    (fun k k1 k4 hk => by have := (h.th k k1 k4).tk hk; show p.H + 1 ≤ p.T + 1; omega) (by simp) (by simp [low, tl]) (fun j h1 h2 => ?_) rm ?_
  · have : j ≠ p.T := by omega
    simp [this]
  · by_cases e : j = p.T
    · subst e; simp only [if_true]; rw [pt, wx]
    · simp only [e, if_false]; exact h.sl j h1 (by simp at h2; omega)
  · refine ⟨LH, by show p.H ≤ p.T + 1; omega, by show 1 ≤ p.nx + 1; omega, ?_, fun i j h1 h2 => ?_, fun j h1 => ?_, ?_, fun v hv => ?_, ?_⟩
    · show p.stack ++ [(p.nx : Int)] = _
      simp only
      rw [show p.T + 1 - p.L = (p.T - p.L) + 1 by omega, List.range'_concat, List.map_append, h.ls.st]
      congr 1
      · apply List.map_congr_left; intro j hj; have := List.mem_range'_1.1 hj; have : j ≠ p.T := by omega
        simp [this]
      · simp; omega
    · simp only at h2 ⊢
      have : i ≠ p.T := by omega
      simp only [this, if_false]
      by_cases e : j = p.T
      · simp only [e, if_true]; exact (h.ls.rg i (by omega)).2
      · simp only [e, if_false]; exact h.ls.asc i j h1 (by omega)
    · simp only at h1 ⊢
      by_cases e : j = p.T
      · simp only [e, if_true]; omega
      · simp only [e, if_false]; have := h.ls.rg j (by omega); omega
    · show p.pushed ++ [(p.nx : Int)] = _
      simp only
      rw [show p.nx + 1 - 1 = (p.nx - 1) + 1 by omega, List.range_succ, List.map_append, ← h.ls.pu]
      congr 1
      simp; omega
    · have := h.ls.po v hv
      refine ⟨this.1, by have := this.2.1; show v < ((p.nx + 1 : Nat) : Int); omega, fun j hj => ?_⟩
      simp only at hj ⊢
      by_cases e : j = p.T
      · simp only [e, if_true]; omega
      · simp only [e, if_false]; exact this.2.2 j (by omega)
    · have := h.ls.cnt; show p.popped.length + (p.T + 1) = p.nx + 1 - 1; omega
theorem o_step (q : Pc) (t' : Int) (hp : tick q = tick (ag 0).pc) (hl : lock q = true → (ag 0).tn = m.sv) (hi : (ag 0).pc ≠ .idle) (hq : ofOwner q = true) (hps : p.pops = true)
    (q1 : q ≠ .pushLook ∧ q ≠ .pushPut ∧ q ≠ .pushShow) (one : q = .popLeave ∨ q = .popTake → p.H + 1 ≤ p.T) (no : q = .popYieldAgain ∨ q = .popGiveUp → p.H = p.T)
    (cr : q = .popLeave ∨ q = .popTake → ∀ k, 1 ≤ k → k < 4 → (ag k).pc = .take → p.H + 2 ≤ p.T)
    (ht : t' = (p.T : Int) - (if low q then 1 else 0)) : Inv D { m with t := t' } (upd ag 0 { ag 0 with pc := q }) p :=
  h.owner _ t' m.tk m.sv m.sl p rfl rfl (fun _ _ => rfl) (h.lk.keep 0 (by omega) _ hp (fun _ => rfl) hl) h.le
    ⟨hq, fun _ => h.ow.tl hi, one, no, by simp [q1], by simp [q1], fun _ => h.ow.hs hi, fun _ => h.ow.fl hi, by simp [q1], by simp [hps]⟩
    (fun k k1 k4 hk => (h.th k k1 k4).tk hk) cr ht h.sl h.TD h.ls
theorem pops_is (h1 : (ag 0).pc ≠ .idle) (h2 : (ag 0).pc ≠ .pushLook) (h3 : (ag 0).pc ≠ .pushPut) (h4 : (ag 0).pc ≠ .pushShow) : p.pops = true := by
  rcases h.ow.wp with e | e | e | e | e
  · exact absurd e h1
  · exact absurd e h2
  · exact absurd e h3
  · exact absurd e h4
  · exact e
theorem head_o (hl : lock (ag 0).pc = true) : m.h = p.H := by
  rcases h.h0 with h1 | ⟨_, j, j1, j4, hj⟩
  · exact h1
  · have := h.alone (by omega) hl j4 (by omega)
    rw [clm_lock hj] at this; cases this
theorem no_take (hl : lock (ag 0).pc = true) (k : Nat) (k1 : 1 ≤ k) (k4 : k < 4) (hk : (ag k).pc = .take) : False :=
  pc_ne hk (h.alone (by omega) hl k4 (by omega)) rfl
theorem o_popClaim (hp : (ag 0).pc = .popClaim) : Inv D { m with t := (ag 0).tl - 1 } (upd ag 0 { ag 0 with pc := .popLook }) p :=
  o_step h .popLook _ (by simp [hp, tick]) (by simp [lock]) (by simp [hp]) rfl (pops_is h (by simp [hp]) (by simp [hp]) (by simp [hp]) (by simp [hp])) (by simp) (by simp) (by simp) (by simp) (by rw [h.ow.tl (by simp [hp])]; simp [low])
theorem o_popLook_yes (hp : (ag 0).pc = .popLook) (hc : m.h ≤ (ag 0).tl - 1) : Inv D m (upd ag 0 { ag 0 with pc := .popTake }) p :=
  have tl := h.ow.tl (by simp [hp])
  have hh := head_le h
  o_step h .popTake m.t (by simp [hp, tick]) (by simp [lock]) (by simp [hp]) rfl (pops_is h (by simp [hp]) (by simp [hp]) (by simp [hp]) (by simp [hp])) (by simp) (fun _ => by omega) (by simp)
    (fun _ k k1 k4 hk => by have := h.hc k k1 k4 (by simp [hk, clm]); omega) (t_is h true (by simp [hp, low]))
theorem o_popLook_no (hp : (ag 0).pc = .popLook) : Inv D m (upd ag 0 { ag 0 with pc := .popYield }) p :=
  o_step h .popYield m.t (by simp [hp, tick]) (by simp [lock]) (by simp [hp]) rfl (pops_is h (by simp [hp]) (by simp [hp]) (by simp [hp]) (by simp [hp])) (by simp) (by simp) (by simp) (by simp) (t_is h true (by simp [hp, low]))
theorem o_popYield (hp : (ag 0).pc = .popYield) : Inv D { m with t := (ag 0).tl } (upd ag 0 { ag 0 with pc := .popAsk }) p :=
  o_step h .popAsk _ (by simp [hp, tick]) (by simp [lock]) (by simp [hp]) rfl (pops_is h (by simp [hp]) (by simp [hp]) (by simp [hp]) (by simp [hp])) (by simp) (by simp) (by simp) (by simp) (by rw [h.ow.tl (by simp [hp])]; simp [low])
theorem o_popAsk (hp : (ag 0).pc = .popAsk) : Inv D { m with tk := m.tk + 1 } (upd ag 0 { ag 0 with pc := .popWait, tn := m.tk }) p :=
  h.owner _ m.t (m.tk + 1) m.sv m.sl p rfl rfl (fun _ _ => rfl) (h.lk.ask h.le 0 (by omega) _ (by simp [hp, tick]) rfl rfl rfl) (by have := h.le; omega)
    ⟨rfl, fun _ => h.ow.tl (by simp [hp]), by simp, by simp, by simp, by simp, fun _ => h.ow.hs (by simp [hp]), fun _ => h.ow.fl (by simp [hp]), by simp, by simp [pops_is h (by simp [hp]) (by simp [hp]) (by simp [hp]) (by simp [hp])]⟩
    (fun k k1 k4 hk => (h.th k k1 k4).tk hk) (by simp) (t_is h false (by simp [hp, low])) h.sl h.TD h.ls
theorem o_popWait (hp : (ag 0).pc = .popWait) (hv : m.sv = (ag 0).tn) : Inv D m (upd ag 0 { ag 0 with pc := .popClaimAgain }) p :=
  o_step h .popClaimAgain m.t (by simp [hp, tick]) (fun _ => hv.symm) (by simp [hp]) rfl (pops_is h (by simp [hp]) (by simp [hp]) (by simp [hp]) (by simp [hp])) (by simp) (by simp) (by simp) (by simp) (t_is h false (by simp [hp, low]))
theorem o_popClaimAgain (hp : (ag 0).pc = .popClaimAgain) : Inv D { m with t := (ag 0).tl - 1 } (upd ag 0 { ag 0 with pc := .popLookAgain }) p :=
  o_step h .popLookAgain _ (by simp [hp, tick]) (fun _ => h.lk.lk 0 (by omega) (by simp [hp, lock])) (by simp [hp]) rfl (pops_is h (by simp [hp]) (by simp [hp]) (by simp [hp]) (by simp [hp])) (by simp) (by simp) (by simp) (by simp) (by rw [h.ow.tl (by simp [hp])]; simp [low])
theorem o_popLookAgain_yes (hp : (ag 0).pc = .popLookAgain) (hc : m.h ≤ (ag 0).tl - 1) : Inv D m (upd ag 0 { ag 0 with pc := .popLeave }) p :=
  have tl := h.ow.tl (by simp [hp])
  have hh := head_le h
  o_step h .popLeave m.t (by simp [hp, tick]) (fun _ => h.lk.lk 0 (by omega) (by simp [hp, lock])) (by simp [hp]) rfl (pops_is h (by simp [hp]) (by simp [hp]) (by simp [hp]) (by simp [hp])) (by simp) (fun _ => by omega) (by simp)
    (fun _ k k1 k4 hk => (no_take h (by simp [hp, lock]) k k1 k4 hk).elim) (t_is h true (by simp [hp, low]))
theorem o_popLookAgain_no (hp : (ag 0).pc = .popLookAgain) (hc : ¬ m.h ≤ (ag 0).tl - 1) : Inv D m (upd ag 0 { ag 0 with pc := .popYieldAgain }) p :=
  have tl := h.ow.tl (by simp [hp])
  have hh := head_o h (by simp [hp, lock])
  have HT := h.ls.HT
  o_step h .popYieldAgain m.t (by simp [hp, tick]) (fun _ => h.lk.lk 0 (by omega) (by simp [hp, lock])) (by simp [hp]) rfl (pops_is h (by simp [hp]) (by simp [hp]) (by simp [hp]) (by simp [hp])) (by simp) (by simp) (fun _ => by omega) (by simp) (t_is h true (by simp [hp, low]))
theorem o_popYieldAgain (hp : (ag 0).pc = .popYieldAgain) : Inv D { m with t := (ag 0).tl } (upd ag 0 { ag 0 with pc := .popGiveUp }) p :=
  o_step h .popGiveUp _ (by simp [hp, tick]) (fun _ => h.lk.lk 0 (by omega) (by simp [hp, lock])) (by simp [hp]) rfl (pops_is h (by simp [hp]) (by simp [hp]) (by simp [hp]) (by simp [hp])) (by simp) (by simp) (fun _ => h.ow.no (by simp [hp])) (by simp) (by rw [h.ow.tl (by simp [hp])]; simp [low])
theorem le_leave (hl : lock (ag 0).pc = true) : m.sv + 1 ≤ m.tk := by have := h.lk.rg 0 (by omega) (tick_of_lock hl); have := h.lk.lk 0 (by omega) hl; omega
theorem o_popLeave (hp : (ag 0).pc = .popLeave) : Inv D { m with sv := m.sv + 1 } (upd ag 0 { ag 0 with pc := .popTake }) p :=
  have hl : lock (ag 0).pc = true := by simp [hp, lock]
  h.owner _ m.t m.tk (m.sv + 1) m.sl p rfl rfl (fun _ _ => rfl) (h.lk.leave 0 (by omega) _ hl rfl) (le_leave h hl)
    ⟨rfl, fun _ => h.ow.tl (by simp [hp]), fun _ => h.ow.one (by simp [hp]), by simp, by simp, by simp, fun _ => h.ow.hs (by simp [hp]), fun _ => h.ow.fl (by simp [hp]), by simp, by simp [pops_is h (by simp [hp]) (by simp [hp]) (by simp [hp]) (by simp [hp])]⟩
    (fun k k1 k4 hk => (h.th k k1 k4).tk hk) (fun _ k k1 k4 hk => (no_take h hl k k1 k4 hk).elim) (t_is h true (by simp [hp, low])) h.sl h.TD h.ls
theorem o_popGiveUp (hp : (ag 0).pc = .popGiveUp) : Inv D { m with sv := m.sv + 1 } (upd ag 0 { ag 0 with pc := .idle }) { p with stack := [], L := p.T } :=
  have hl : lock (ag 0).pc = true := by simp [hp, lock]
  have no := h.ow.no (by simp [hp])
  h.owner _ m.t m.tk (m.sv + 1) m.sl { p with stack := [], L := p.T } rfl rfl (fun _ _ => rfl) (h.lk.leave 0 (by omega) _ hl rfl) (le_leave h hl)
    ⟨rfl, by simp, by simp, by simp, by simp, by simp, by simp, by simp, by simp, by simp⟩
    (fun k k1 k4 hk => (h.th k k1 k4).tk hk) (by simp) (t_is h false (by simp [hp, low])) h.sl h.TD
    ⟨by show p.T ≤ p.H; omega, h.ls.HT, h.ls.n1, by simp, h.ls.asc, h.ls.rg, h.ls.pu, h.ls.po, h.ls.cnt⟩
theorem o_popTake (hp : (ag 0).pc = .popTake) : Inv D m (upd ag 0 { ag 0 with tl := (ag 0).tl - 1, gt := m.sl ((p.T - 1) % D), hs := true, pc := .idle })
    { p with T := p.T - 1, popped := p.popped ++ [m.sl ((p.T - 1) % D)], stack := p.stack.take (p.stack.length - 1) } ∧
    0 < p.stack.length ∧ p.stack.getD (p.stack.length - 1) 0 = m.sl ((p.T - 1) % D) ∧ 1 ≤ p.T := by
  have one := h.ow.one (by simp [hp])
  have LH := h.ls.LH
  have e : m.sl ((p.T - 1) % D) = p.el (p.T - 1) := h.sl (p.T - 1) (by omega) (by omega)
  have hl : p.stack.length = p.T - p.L := by rw [h.ls.st]; simp
  refine ⟨h.owner _ m.t m.tk m.sv m.sl { p with T := p.T - 1, popped := p.popped ++ [m.sl ((p.T - 1) % D)], stack := p.stack.take (p.stack.length - 1) } rfl rfl (fun _ _ => rfl) (h.lk.keep 0 (by omega) _ (by simp [hp, tick]) (by simp [tick]) (by simp [lock])) h.le
    ⟨rfl, by simp, by simp, by simp, by simp, by simp, by simp, by simp, by simp, by simp⟩
    (fun k k1 k4 hk => by have := h.cr k k1 k4 hk (by simp [hp]); show p.H + 1 ≤ p.T - 1; omega) (by simp) (by have := t_is h true (by simp [hp, low]); simp at this; simp [low]; omega)
    (fun j h1 h2 => h.sl j h1 (by simp at h2; omega)) (by have := h.TD; show p.T - 1 ≤ p.H + D; omega) ⟨LH, by show p.H ≤ p.T - 1; omega, h.ls.n1, ?_, fun i j h1 h2 => h.ls.asc i j h1 (by simp at h2; omega), fun j h1 => h.ls.rg j (by simp at h1; omega), h.ls.pu, fun v hv => ?_, ?_⟩, by omega, ?_, by omega⟩
  · show p.stack.take (p.stack.length - 1) = _
    simp only
    rw [hl, h.ls.st, show p.T - p.L = (p.T - 1 - p.L) + 1 by omega, List.range'_concat, List.map_append, show p.T - 1 - p.L + 1 - 1 = p.T - 1 - p.L by omega, List.take_left' (by simp)]
  · rcases List.mem_append.1 hv with hv | hv
    · have := h.ls.po v hv
      exact ⟨this.1, this.2.1, fun j hj => this.2.2 j (by simp at hj; omega)⟩
    · obtain rfl := List.mem_singleton.1 hv
      rw [e]
      have := h.ls.rg (p.T - 1) (by omega)
      exact ⟨this.1, this.2, fun j hj => by have := h.ls.asc j (p.T - 1) (by simp at hj; omega) (by omega); show p.el j ≠ _; omega⟩
  · have := h.ls.cnt; simp; omega
  · rw [hl, h.ls.st, e]
    rw [List.getD_eq_getElem?_getD, List.getElem?_map, List.getElem?_range' (by omega)]
    simp; congr 1; omega
end owner

/-- the play's beginning. -/
theorem inv_begin (D : Nat) (hD : 2 ≤ D) (m : Mem) (h0 : m.h = 0) (h1 : m.t = 0) (h2 : m.tk = 0) (h3 : m.sv = 0) (ag : Nat → Ag) (ha : ∀ k, (ag k).pc = .idle) (el : Nat → Int) : Inv D m ag ⟨0, 0, 0, el, 1, false, [], [], [], []⟩ := by
  refine ⟨hD, ⟨fun k _ h => (by rw [ha] at h; cases h), fun j _ k _ _ h => (by rw [ha] at h; cases h), fun k _ h => (by rw [ha] at h; cases h), fun n a b => by omega⟩, by omega, fun k _ _ => ⟨by rw [ha]; rfl, by simp [ha], by simp [ha], by simp [ha]⟩, ⟨by rw [ha]; rfl, by simp [ha], by simp [ha], by simp [ha], by simp [ha], by simp [ha], by simp [ha], by simp [ha], by simp [ha], by simp [ha]⟩, fun k _ _ h => (by rw [ha] at h; cases h), fun k _ _ h => (by rw [ha] at h; cases h), Or.inl (by simp [h0]), by simp [h1, ha, low], fun j a b => by simp at b, by simp, fun k _ _ h => (by rw [ha] at h; cases h), fun _ => rfl, ⟨by simp, by simp, by simp, by simp, fun i j _ b => by simp at b, fun j b => by simp at b, by simp, by simp, by simp⟩⟩
/-- the play's end: what the law asks. -/
theorem inv_end {D : Nat} {m : Mem} {ag : Nat → Ag} {p : Ps} (h : Inv D m ag p) (ha : ∀ k < 4, (ag k).pc = .idle) :
    (∀ i, i + 1 < p.stolen.length → p.stolen.getD i 0 < p.stolen.getD (i + 1) 0) ∧ (∀ v ∈ p.stolen, ¬ v ∈ p.popped) ∧ (∀ v ∈ p.stolen, v ∈ p.pushed) ∧
    p.popped.length + p.stolen.length + (p.stack.filter fun v => !p.stolen.contains v).length = p.pushed.length := by
  have LH := h.ls.LH
  have HT := h.ls.HT
  have n1 := h.ls.n1
  have hs := h.pd0 fun k _ k4 ⟨e, _⟩ => by rw [ha k k4] at e; cases e
  refine ⟨fun i hi => ?_, fun v hv hp => ?_, fun v hv => ?_, ?_⟩
  · rw [hs] at hi ⊢
    simp only [List.length_map, List.length_range] at hi
    rw [List.getD_eq_getElem?_getD, List.getD_eq_getElem?_getD, List.getElem?_map, List.getElem?_map, List.getElem?_range (by omega), List.getElem?_range (by omega)]
    exact h.ls.asc i (i + 1) (by omega) (by omega)
  · rw [hs] at hv
    obtain ⟨j, hj, rfl⟩ := List.mem_map.1 hv
    exact (h.ls.po _ hp).2.2 j (by have := List.mem_range.1 hj; omega) rfl
  · rw [hs] at hv
    obtain ⟨j, hj, rfl⟩ := List.mem_map.1 hv
    have := h.ls.rg j (by have := List.mem_range.1 hj; omega)
    rw [h.ls.pu]
    exact List.mem_map.2 ⟨(p.el j - 1).toNat, List.mem_range.2 (by omega), by omega⟩
  · have e1 : p.stolen.length = p.H := by rw [hs]; simp
    have e2 : p.pushed.length = p.nx - 1 := by rw [h.ls.pu]; simp
    have e3 : (p.stack.filter fun v => !p.stolen.contains v).length = p.T - p.H := by
      rw [h.ls.st, show p.T - p.L = (p.H - p.L) + (p.T - p.H) by omega, ← List.range'_append_1, List.map_append, List.filter_append, show p.L + (p.H - p.L) = p.H by omega]
      rw [List.filter_eq_nil_iff.2 (fun v hv => ?_), List.filter_eq_self.2 (fun v hv => ?_)]
      · simp
      · obtain ⟨j, hj, rfl⟩ := List.mem_map.1 hv
        have := List.mem_range'_1.1 hj
        simp only [Bool.not_eq_true', List.contains_eq_mem, decide_eq_false_iff_not]
        intro hm
        rw [hs] at hm
        obtain ⟨i, hi, e⟩ := List.mem_map.1 hm
        have hi := List.mem_range.1 hi
        have := h.ls.asc i j (by omega) (by omega)
        omega
      · obtain ⟨j, hj, rfl⟩ := List.mem_map.1 hv
        have := List.mem_range'_1.1 hj
        simp only [Bool.not_eq_true', Bool.not_eq_false, List.contains_eq_mem, decide_eq_true_eq]
        rw [hs]
        exact List.mem_map.2 ⟨j, List.mem_range.2 (by omega), rfl⟩
    have := h.ls.cnt
    omega
/-- how many steps of its own an agent has at most. -/
def rank : Pc → Nat
  | .idle => 0
  | .leave => 1 | .take => 2 | .yield => 2 | .check => 3 | .claim => 4 | .look => 5 | .wait => 6 | .ask => 7
  | .popTake => 1 | .popLeave => 2 | .popGiveUp => 1 | .popYieldAgain => 2 | .popLookAgain => 3 | .popClaimAgain => 4 | .popWait => 5 | .popAsk => 6 | .popYield => 7 | .popLook => 8 | .popClaim => 9
  | .pushShow => 1 | .pushPut => 2 | .pushLook => 3
def waits : Pc → Bool
  | .wait | .popWait => true
  | _ => false
/-- An agent that does a step, if it is asked to. -/
def mov (m : Mem) (a : Ag) : Prop := a.pc ≠ .idle ∧ (waits a.pc = true → a.tn = m.sv)
/-- what a step of agent k comes to. -/
def Mv (m m' : Mem) (a a' : Ag) : Prop := (rank a'.pc < rank a.pc ∧ (m'.sv = m.sv ∨ lock a.pc = true)) ∨ (m' = m ∧ a' = a ∧ ¬ mov m a)
def sumR (ag : Nat → Ag) : Nat := rank (ag 0).pc + rank (ag 1).pc + rank (ag 2).pc + rank (ag 3).pc
theorem rank_pos {q : Pc} (h : q ≠ .idle) : 1 ≤ rank q := by cases q <;> simp_all [rank]
theorem rank_zero {q : Pc} (h : rank q = 0) : q = .idle := by cases q <;> simp_all [rank]
theorem rank_owner (q : Pc) : rank q ≤ 9 := by cases q <;> simp [rank]
theorem rank_thief {q : Pc} (h : ofThief q = true) : rank q ≤ 7 := by cases q <;> simp_all [rank, ofThief]
theorem waits_tick {q : Pc} (h : waits q = true) : tick q = true := by cases q <;> simp_all [waits, tick]
theorem tick_kind {q : Pc} (h : tick q = true) : q ≠ .idle := by cases q <;> simp_all [tick]
theorem sum_upd (ag : Nat → Ag) (k : Nat) (hk : k < 4) (a : Ag) : sumR (upd ag k a) + rank (ag k).pc = sumR ag + rank a.pc := by
  have : k = 0 ∨ k = 1 ∨ k = 2 ∨ k = 3 := by omega
  rcases this with rfl | rfl | rfl | rfl <;> simp [sumR, upd] <;> omega
theorem sum_zero {ag : Nat → Ag} (h : sumR ag = 0) : ∀ k < 4, (ag k).pc = .idle := by
  intro k hk
  apply rank_zero
  unfold sumR at h
  have : k = 0 ∨ k = 1 ∨ k = 2 ∨ k = 3 := by omega
  rcases this with rfl | rfl | rfl | rfl <;> omega
theorem some_mov {D : Nat} {m : Mem} {ag : Nat → Ag} {p : Ps} (h : Inv D m ag p) (hR : sumR ag ≠ 0) : ∃ k < 4, mov m (ag k) := by
  have : ∃ k < 4, (ag k).pc ≠ .idle := by
    by_cases e : ∃ k < 4, (ag k).pc ≠ .idle
    · exact e
    · exfalso; apply hR
      have e' : ∀ k < 4, (ag k).pc = .idle := fun k hk => by
        by_cases e'' : (ag k).pc = .idle
        · exact e''
        · exact absurd ⟨k, hk, e''⟩ e
      simp [sumR, e' 0, e' 1, e' 2, e' 3, rank]
  obtain ⟨k, hk, hi⟩ := this
  cases e : waits (ag k).pc
  · exact ⟨k, hk, hi, by simp [e]⟩
  · have := h.lk.rg k hk (waits_tick e)
    obtain ⟨j, hj, h1, h2⟩ := h.lk.all m.sv (by omega) (by omega)
    exact ⟨j, hj, tick_kind h1, fun _ => h2⟩
/-- within N more rounds all have ended. -/
def Bud (m : Mem) (ag : Nat → Ag) (i N : Nat) : Prop := sumR ag = 0 ∨ ∃ d, d < 4 ∧ mov m (ag ((i + d) % 4)) ∧ 4 * (sumR ag - 1) + d + 1 ≤ N
theorem bud_any {D : Nat} {m : Mem} {ag : Nat → Ag} {p : Ps} (h : Inv D m ag p) (i N : Nat) (hN : 4 * sumR ag ≤ N) : Bud m ag i N := by
  by_cases e : sumR ag = 0
  · exact Or.inl e
  · obtain ⟨k, hk, hm⟩ := some_mov h e
    refine Or.inr ⟨(k + 4 - i % 4) % 4, by omega, ?_, by omega⟩
    have : (i + (k + 4 - i % 4) % 4) % 4 = k := by omega
    rw [this]; exact hm
theorem bud_begin {D : Nat} {m : Mem} {ag : Nat → Ag} {p : Ps} (h : Inv D m ag p) (i : Nat) : Bud m ag i 400 := by
  apply bud_any h
  have := rank_owner (ag 0).pc
  have := rank_thief (h.th 1 (by omega) (by omega)).of
  have := rank_thief (h.th 2 (by omega) (by omega)).of
  have := rank_thief (h.th 3 (by omega) (by omega)).of
  unfold sumR; omega
/-- who is asked has ended: nothing. -/
theorem bud_skip {m : Mem} {ag : Nat → Ag} {i N : Nat} (h : Bud m ag i (N + 1)) (hi : ¬ mov m (ag (i % 4))) : Bud m ag (i + 1) N := by
  rcases h with h | ⟨d, d4, hm, hb⟩
  · exact Or.inl h
  · have : d ≠ 0 := by rintro rfl; exact hi hm
    refine Or.inr ⟨d - 1, by omega, ?_, by omega⟩
    rw [show i + 1 + (d - 1) = i + d by omega]; exact hm
theorem bud_step {D D' : Nat} {m m' : Mem} {ag : Nat → Ag} {p p' : Ps} {i N : Nat} (h : Inv D m ag p) (a' : Ag) (h' : Inv D' m' (upd ag (i % 4) a') p') (hv : Mv m m' (ag (i % 4)) a') (hb : Bud m ag i (N + 1)) : Bud m' (upd ag (i % 4) a') (i + 1) N := by
  rcases hv with ⟨hr, _⟩ | ⟨rfl, rfl, hn⟩
  · apply bud_any h'
    have := sum_upd ag (i % 4) (by omega) a'
    rcases hb with hb | ⟨d, _, _, hb⟩
    · have := sum_zero hb (i % 4) (by omega)
      rw [this] at hr; simp [rank] at hr
    · omega
  · have e : upd ag (i % 4) (ag (i % 4)) = ag := by funext j; unfold upd; split <;> simp_all
    rw [e]; exact bud_skip hb hn
theorem bud_end {m : Mem} {ag : Nat → Ag} {i : Nat} (h : Bud m ag i 0) : ∀ k < 4, (ag k).pc = .idle := by
  rcases h with h | ⟨d, _, _, hb⟩
  · exact sum_zero h
  · omega
end Go.Proofs.Ytegbifphekhgkaa.DO
