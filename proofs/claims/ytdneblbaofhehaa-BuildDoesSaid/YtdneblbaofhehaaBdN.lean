/- Steps of putting a program together, as pure functions: the builder's state, and the document's answer (layer 7). -/
import Derived.Test.YtdneblbaofhehaaBdL
namespace Go.Proofs.Ytdneblbaofhehaa.bd
open Go.ChangeShapes Go.WideShapes Go.ChangeAt Go.RowKit Go.Maps
open Go.Proofs.Ytdneblbaofhehaa.ro
open Go.Proofs.Ytdneblbaofhehaa.pr
set_option linter.unusedVariables false
set_option linter.unusedSimpArgs false
structure St where
  k : Int
  r : Int
  s : ByteArray
  x : I4
structure PF where
  cs : List I4
  ls : List (Int × ByteArray)
  f : ByteArray → Option Int
  nl : Nat
def toP (x : Fn) : PF := ⟨x.cs, x.ls, x.f, x.nl⟩
def pf0 : PF := ⟨[], [], fun _ => none, 0⟩
def pfX (p : PF) (x : I4) : PF := { p with cs := p.cs ++ [x] }
def pfL (p : PF) (s : ByteArray) : PF := { p with f := (fun q => if q = s then some (p.cs.length : Int) else p.f q), nl := p.nl + 1 }
def pfJ (p : PF) (x : I4) (s : ByteArray) : PF := { p with cs := p.cs ++ [x], ls := p.ls ++ [((p.cs.length : Int), s)] }
/-- one step within a function. -/
def inF (p : PF) (o : St) : PF :=
  if o.k = 1 then pfX p o.x else if o.k = 2 then (if (p.f o.s).isSome then p else pfL p o.s) else if o.k = 3 then pfJ p (18, 0, 0, 0) o.s else pfJ p (19, o.r, 0, 0) o.s
def stp (fs : List PF) (o : St) : List PF :=
  if o.k = 0 then fs ++ [pf0] else match fs[fs.length - 1]? with
    | none => fs
    | some p => fs.set (fs.length - 1) (inF p o)
/-- what a step answers. -/
def ans (fs : List PF) (o : St) : Int :=
  if o.k = 0 then (fs.length : Int) else match fs[fs.length - 1]? with
    | none => if o.k = 1 then -1 else if o.k = 2 then -4 else 0
    | some p => if o.k = 1 then ((p.cs.length + 1 : Nat) : Int) else if o.k = 2 then (if (p.f o.s).isSome then -3 else -2) else 0
def run (m : List St) : List PF := m.foldl stp []
theorem run_snoc (m : List St) (o : St) : run (m ++ [o]) = stp (run m) o := by
  unfold run
  rw [List.foldl_append]
  rfl
theorem run_take {m : List St} {i : Nat} {o : St} (h : m[i]? = some o) : run (m.take (i + 1)) = stp (run (m.take i)) o := by
  rw [List.take_add_one, h, ← run_snoc]
  rfl
/-- what holds of a function of so many steps. -/
structure POk (n : Nat) (p : PF) : Prop where
  c : p.cs.length ≤ n
  l : p.ls.length ≤ n
  nl : p.nl ≤ n
  a : ∀ (i : Nat) (l : Int × ByteArray), p.ls[i]? = some l → ∃ a : Nat, l.1 = (a : Int) ∧ a < p.cs.length ∧ l.2.size ≤ 1000
theorem POk.mono {n n' : Nat} {p : PF} (h : POk n p) (hn : n ≤ n') : POk n' p := ⟨Nat.le_trans h.c hn, Nat.le_trans h.l hn, Nat.le_trans h.nl hn, h.a⟩
theorem POk.zero : POk 0 pf0 := ⟨Nat.le_refl _, Nat.le_refl _, Nat.le_refl _, fun i l h => by simp [pf0] at h⟩
theorem POk.j {n : Nat} {p : PF} (h : POk n p) (x : I4) (s : ByteArray) (hs : s.size ≤ 1000) : POk (n + 1) (pfJ p x s) := by
  refine ⟨by simp [pfJ]; exact h.c, by simp [pfJ]; exact h.l, Nat.le_succ_of_le h.nl, fun i l hl => ?_⟩
  have hl' : (p.ls ++ [((p.cs.length : Int), s)])[i]? = some l := hl
  by_cases e : i < p.ls.length
  · rw [List.getElem?_append_left e] at hl'
    obtain ⟨a, h1, h2, h3⟩ := h.a i l hl'
    exact ⟨a, h1, by simp [pfJ]; omega, h3⟩
  · rw [List.getElem?_append_right (by omega)] at hl'
    have hj : i - p.ls.length = 0 := by
      rcases Nat.eq_zero_or_pos (i - p.ls.length) with h | h
      · exact h
      · rw [List.getElem?_eq_none (by simp; omega)] at hl'; cases hl'
    rw [hj] at hl'
    cases hl'
    exact ⟨p.cs.length, rfl, by simp [pfJ], hs⟩
theorem POk.inF {n : Nat} {p : PF} (h : POk n p) (o : St) (hs : o.s.size ≤ 1000) : POk (n + 1) (inF p o) := by
  unfold bd.inF
  by_cases h1 : o.k = 1
  · rw [if_pos h1]
    refine ⟨by simp [pfX]; exact h.c, Nat.le_succ_of_le h.l, Nat.le_succ_of_le h.nl, fun i l hl => ?_⟩
    obtain ⟨a, h1, h2, h3⟩ := h.a i l hl
    exact ⟨a, h1, by simp [pfX]; omega, h3⟩
  · rw [if_neg h1]
    by_cases h2 : o.k = 2
    · rw [if_pos h2]
      by_cases h3 : (p.f o.s).isSome
      · rw [if_pos h3]; exact h.mono (Nat.le_succ _)
      · rw [if_neg h3]
        exact ⟨Nat.le_succ_of_le h.c, Nat.le_succ_of_le h.l, Nat.succ_le_succ h.nl, h.a⟩
    · rw [if_neg h2]
      by_cases h3 : o.k = 3
      · rw [if_pos h3]; exact h.j _ _ hs
      · rw [if_neg h3]; exact h.j _ _ hs
theorem stp_len (fs : List PF) (o : St) : (stp fs o).length ≤ fs.length + 1 := by
  unfold stp
  by_cases h : o.k = 0
  · rw [if_pos h]; simp
  · rw [if_neg h]
    cases hx : fs[fs.length - 1]? with
    | none => exact Nat.le_succ _
    | some p => show (fs.set _ _).length ≤ _; rw [List.length_set]; omega
theorem stp_ok {n : Nat} {fs : List PF} (o : St) (hs : o.s.size ≤ 1000) (h : ∀ (j : Nat) (p : PF), fs[j]? = some p → POk n p) : ∀ (j : Nat) (p : PF), (stp fs o)[j]? = some p → POk (n + 1) p := by
  intro j p hp
  unfold stp at hp
  by_cases h0 : o.k = 0
  · rw [if_pos h0] at hp
    by_cases e : j < fs.length
    · rw [List.getElem?_append_left e] at hp
      exact (h j p hp).mono (Nat.le_succ _)
    · rw [List.getElem?_append_right (by omega)] at hp
      have hj : j - fs.length = 0 := by
        rcases Nat.eq_zero_or_pos (j - fs.length) with h | h
        · exact h
        · rw [List.getElem?_eq_none (by simp; omega)] at hp; cases hp
      rw [hj] at hp
      cases hp
      exact POk.zero.mono (Nat.zero_le _)
  · rw [if_neg h0] at hp
    cases hx : fs[fs.length - 1]? with
    | none => rw [hx] at hp; exact (h j p hp).mono (Nat.le_succ _)
    | some q =>
      rw [hx] at hp
      have hp' : (fs.set (fs.length - 1) (inF q o))[j]? = some p := hp
      by_cases e : fs.length - 1 = j
      · subst e
        rw [List.getElem?_set_self (List.getElem?_eq_some_iff.1 hx).1] at hp'
        cases hp'
        exact (h _ q hx).inF o hs
      · rw [List.getElem?_set_ne e] at hp'
        exact (h j p hp').mono (Nat.le_succ _)
theorem run_len : ∀ (n : Nat) (m : List St), m.length = n → (run m).length ≤ n
  | 0, m, h => by rw [List.length_eq_zero_iff.1 h]; exact Nat.le_refl _
  | n + 1, m, h => by
    have hne : m ≠ [] := fun e => by rw [e] at h; simp at h
    rw [← List.dropLast_concat_getLast hne, run_snoc]
    have := run_len n m.dropLast (by rw [List.length_dropLast]; omega)
    have := stp_len (run m.dropLast) (m.getLast hne)
    omega
theorem run_ok : ∀ (n : Nat) (m : List St), m.length = n → (∀ o ∈ m, o.s.size ≤ 1000) → ∀ (j : Nat) (p : PF), (run m)[j]? = some p → POk n p
  | 0, m, h, hm => fun j p hp => by rw [List.length_eq_zero_iff.1 h] at hp; simp [run] at hp
  | n + 1, m, h, hm => by
    have hne : m ≠ [] := fun e => by rw [e] at h; simp at h
    have hd := List.dropLast_concat_getLast hne
    rw [← hd, run_snoc]
    exact stp_ok _ (hm _ (List.getLast_mem hne)) (run_ok n m.dropLast (by rw [List.length_dropLast]; omega) (fun o ho => hm o (List.dropLast_subset m ho)))
/-- where a label stands in the steps of one function. -/
def plc : List St → ByteArray → Option Int
  | [], _ => none
  | o :: b, s => if o.k = 2 ∧ o.s = s then some 0 else (plc b s).map (fun a => if o.k = 2 then a else a + 1)
/-- one function's instructions with the jumps' targets set, as the document says it. -/
def fills (f : ByteArray → Option Int) : List St → Option (List I4)
  | [] => some []
  | o :: b => if o.k = 2 then fills f b else if o.k = 3 ∨ o.k = 4 then (match f o.s with
      | none => none
      | some p => (fills f b).map (fun c => (if o.k = 3 then (18, p, 0, 0) else (19, o.r, p, 0)) :: c))
    else (fills f b).map (fun c => o.x :: c)
/-- the steps of each function. -/
def segs : List St → List (List St)
  | [] => []
  | o :: l => if o.k = 0 then l.takeWhile (fun q => q.k ≠ 0) :: segs l else segs l
def refP : List (List St) → List (List I4) → Option (List (List I4))
  | [], L => some L
  | b :: r, L => match fills (plc b) b with
    | none => none
    | some c => refP r (L ++ [c])
def foldI (p : PF) (b : List St) : PF := b.foldl inF p
def kOk (o : St) : Prop := 0 ≤ o.k ∧ o.k ≤ 4
theorem run_segs : ∀ (l : List St) (fs : List PF) (p : PF), l.foldl stp (fs ++ [p]) = fs ++ [foldI p (l.takeWhile (fun q => q.k ≠ 0))] ++ (segs l).map (foldI pf0)
  | [], fs, p => by simp [foldI, segs]
  | o :: l, fs, p => by
    have hl : (fs ++ [p])[(fs ++ [p]).length - 1]? = some p := by simp
    rw [List.foldl_cons]
    by_cases h : o.k = 0
    · have e1 : stp (fs ++ [p]) o = (fs ++ [p]) ++ [pf0] := by unfold stp; rw [if_pos h]
      have e2 : segs (o :: l) = l.takeWhile (fun q => q.k ≠ 0) :: segs l := by rw [segs, if_pos h]
      rw [e1, run_segs l (fs ++ [p]) pf0, e2]
      have e3 : (o :: l).takeWhile (fun q => q.k ≠ 0) = [] := by simp [List.takeWhile_cons, h]
      rw [e3]
      simp [foldI]
    · have e1 : stp (fs ++ [p]) o = fs ++ [inF p o] := by
        unfold stp
        rw [if_neg h, hl]
        show (fs ++ [p]).set ((fs ++ [p]).length - 1) (inF p o) = _
        simp
      have e2 : segs (o :: l) = segs l := by rw [segs, if_neg h]
      rw [e1, run_segs l fs (inF p o), e2]
      have e3 : (o :: l).takeWhile (fun q => q.k ≠ 0) = o :: l.takeWhile (fun q => q.k ≠ 0) := by simp [List.takeWhile_cons, h]
      rw [e3]
      rfl
theorem run_eq : ∀ (l : List St), run l = (segs l).map (foldI pf0)
  | [] => rfl
  | o :: l => by
    unfold run
    rw [List.foldl_cons]
    by_cases h : o.k = 0
    · have e1 : stp [] o = [] ++ [pf0] := by unfold stp; rw [if_pos h]
      have e2 : segs (o :: l) = l.takeWhile (fun q => q.k ≠ 0) :: segs l := by rw [segs, if_pos h]
      rw [e1, run_segs l [] pf0, e2]
      simp
    · have e1 : stp [] o = [] := by unfold stp; rw [if_neg h]; rfl
      have e2 : segs (o :: l) = segs l := by rw [segs, if_neg h]
      rw [e1, e2]
      exact run_eq l
/-- the instructions, the leaps, ahead of the targets. -/
def raws : List St → List I4
  | [] => []
  | o :: b => if o.k = 2 then raws b else (if o.k = 1 then o.x else if o.k = 3 then (18, 0, 0, 0) else (19, o.r, 0, 0)) :: raws b
def offs : Nat → List St → List (Int × ByteArray)
  | _, [] => []
  | d, o :: b => if o.k = 2 then offs d b else if o.k = 1 then offs (d + 1) b else ((d : Int), o.s) :: offs (d + 1) b
theorem foldI_cs : ∀ (b : List St) (p : PF), (foldI p b).cs = p.cs ++ raws b
  | [], p => by simp [foldI, raws]
  | o :: b, p => by
    show (foldI (inF p o) b).cs = _
    rw [foldI_cs b]
    unfold inF
    by_cases h1 : o.k = 1
    · simp [h1, raws, pfX]
    · by_cases h2 : o.k = 2
      · by_cases h3 : (p.f o.s).isSome <;> simp [h2, h3, raws, pfL]
      · by_cases h3 : o.k = 3 <;> simp [h1, h2, h3, raws, pfJ]
theorem foldI_ls : ∀ (b : List St) (p : PF), (foldI p b).ls = p.ls ++ offs p.cs.length b
  | [], p => by simp [foldI, offs]
  | o :: b, p => by
    show (foldI (inF p o) b).ls = _
    rw [foldI_ls b]
    unfold inF
    by_cases h1 : o.k = 1
    · simp [h1, offs, pfX]
    · by_cases h2 : o.k = 2
      · by_cases h3 : (p.f o.s).isSome <;> simp [h2, h3, offs, pfL]
      · by_cases h3 : o.k = 3 <;> simp [h1, h2, h3, offs, pfJ]
theorem foldI_f : ∀ (b : List St) (p : PF) (s : ByteArray), (foldI p b).f s = match p.f s with
    | some a => some a
    | none => (plc b s).map (fun a => a + (p.cs.length : Int))
  | [], p, s => by
    show p.f s = _
    cases p.f s <;> rfl
  | o :: b, p, s => by
    show (foldI (inF p o) b).f s = _
    rw [foldI_f b]
    have hplc : plc (o :: b) s = if o.k = 2 ∧ o.s = s then some 0 else (plc b s).map (fun a => if o.k = 2 then a else a + 1) := rfl
    by_cases h2 : o.k = 2
    · by_cases h3 : (p.f o.s).isSome
      · have e : inF p o = p := by unfold inF; rw [if_neg (by omega), if_pos h2, if_pos h3]
        rw [e]
        cases hp : p.f s with
        | some a => rfl
        | none =>
          have hne : ¬ o.s = s := fun e => by rw [e, hp] at h3; simp at h3
          rw [hplc, if_neg (fun h => hne h.2)]
          cases plc b s with
          | none => rfl
          | some a => simp [h2]
      · have e : inF p o = pfL p o.s := by unfold inF; rw [if_neg (by omega), if_pos h2, if_neg h3]
        rw [e]
        show (match (if s = o.s then some (p.cs.length : Int) else p.f s) with | some a => some a | none => (plc b s).map (fun a => a + (p.cs.length : Int))) = _
        by_cases e : s = o.s
        · subst e
          have hp : p.f o.s = none := by simpa using h3
          rw [if_pos rfl, hp, hplc, if_pos ⟨h2, rfl⟩]
          simp
        · rw [if_neg e, hplc, if_neg (fun h => e h.2.symm)]
          cases p.f s with
          | some a => rfl
          | none =>
            cases plc b s with
            | none => rfl
            | some a => simp [h2]
    · have e : (inF p o).f = p.f ∧ (inF p o).cs.length = p.cs.length + 1 := by
        unfold inF
        by_cases h1 : o.k = 1
        · rw [if_pos h1]; exact ⟨rfl, by simp [pfX]⟩
        · rw [if_neg h1, if_neg h2]
          by_cases h3 : o.k = 3
          · rw [if_pos h3]; exact ⟨rfl, by simp [pfJ]⟩
          · rw [if_neg h3]; exact ⟨rfl, by simp [pfJ]⟩
      rw [e.1, e.2, hplc, if_neg (fun h => h2 h.1)]
      cases p.f s with
      | some a => rfl
      | none =>
        cases plc b s with
        | none => rfl
        | some a => simp [h2]; omega
theorem fill_mid (A R : List I4) (q : I4) (p : Int) : fill1 (A ++ q :: R) A.length p = A ++ fillI q p :: R := by
  unfold fill1
  rw [List.getD_eq_getElem?_getD, List.getElem?_append_right (Nat.le_refl _), Nat.sub_self, List.set_append, if_neg (by omega), Nat.sub_self]
  rfl
theorem led_fills (f : ByteArray → Option Int) : ∀ (b : List St), (∀ o ∈ b, 1 ≤ o.k ∧ o.k ≤ 4) → ∀ (A : List I4), ledR f (offs A.length b) (A ++ raws b) = (fills f b).map (fun c => A ++ c)
  | [], _, A => by simp [offs, raws, ledR, fills]
  | o :: b, hb, A => by
    have ho := hb o (List.mem_cons_self)
    have hb' : ∀ o ∈ b, 1 ≤ o.k ∧ o.k ≤ 4 := fun q hq => hb q (List.mem_cons_of_mem _ hq)
    by_cases h2 : o.k = 2
    · have e1 : offs A.length (o :: b) = offs A.length b := by rw [offs, if_pos h2]
      have e2 : raws (o :: b) = raws b := by rw [raws, if_pos h2]
      have e3 : fills f (o :: b) = fills f b := by rw [fills, if_pos h2]
      rw [e1, e2, e3]
      exact led_fills f b hb' A
    · by_cases h1 : o.k = 1
      · have e1 : offs A.length (o :: b) = offs (A ++ [o.x]).length b := by rw [offs, if_neg h2, if_pos h1]; simp
        have e2 : A ++ raws (o :: b) = (A ++ [o.x]) ++ raws b := by rw [raws, if_neg h2, if_pos h1]; simp
        have e3 : fills f (o :: b) = (fills f b).map (fun c => o.x :: c) := by rw [fills, if_neg h2, if_neg (by omega)]
        rw [e1, e2, e3, led_fills f b hb' (A ++ [o.x])]
        cases fills f b with
        | none => rfl
        | some c => simp
      · obtain ⟨q, hq⟩ : ∃ q : I4, q = if o.k = 3 then (18, 0, 0, 0) else (19, o.r, 0, 0) := ⟨_, rfl⟩
        have e1 : offs A.length (o :: b) = ((A.length : Int), o.s) :: offs (A.length + 1) b := by rw [offs, if_neg h2, if_neg h1]
        have e2 : raws (o :: b) = q :: raws b := by rw [raws, if_neg h2, if_neg h1, hq]
        have e3 : fills f (o :: b) = (match f o.s with
            | none => none
            | some p => (fills f b).map (fun c => (if o.k = 3 then (18, p, 0, 0) else (19, o.r, p, 0)) :: c)) := by rw [fills, if_neg h2, if_pos (by omega)]
        rw [e1, e2, e3]
        show (match f o.s with | none => none | some p => ledR f (offs (A.length + 1) b) (fill1 (A ++ q :: raws b) (A.length : Int).toNat p)) = _
        cases hf : f o.s with
        | none => rfl
        | some p =>
          show ledR f (offs (A.length + 1) b) (fill1 (A ++ q :: raws b) (A.length : Int).toNat p) = _
          have e4 : fillI q p = if o.k = 3 then (18, p, 0, 0) else (19, o.r, p, 0) := by
            rw [hq]
            by_cases h3 : o.k = 3
            · rw [if_pos h3, if_pos h3]; rfl
            · rw [if_neg h3, if_neg h3]; rfl
          rw [Int.toNat_natCast, fill_mid, e4]
          have e5 : ∀ y : I4, A ++ y :: raws b = (A ++ [y]) ++ raws b := fun y => by simp
          rw [e5, show A.length + 1 = (A ++ [if o.k = 3 then ((18, p, 0, 0) : I4) else (19, o.r, p, 0)]).length by simp, led_fills f b hb' _]
          show _ = Option.map (fun c => A ++ c) (Option.map _ (fills f b))
          cases fills f b with
          | none => rfl
          | some c => simp
/-- one function, as the builder leads its jumps and as the document says it. -/
theorem led_foldI (b : List St) (hb : ∀ o ∈ b, 1 ≤ o.k ∧ o.k ≤ 4) : ledR (foldI pf0 b).f (foldI pf0 b).ls (foldI pf0 b).cs = fills (plc b) b := by
  have hf : (foldI pf0 b).f = plc b := by
    funext s
    rw [foldI_f]
    show (plc b s).map (fun a => a + ((0 : Nat) : Int)) = _
    cases plc b s <;> simp
  rw [hf, foldI_ls, foldI_cs]
  show ledR (plc b) ([] ++ offs 0 b) ([] ++ raws b) = _
  have := led_fills (plc b) b hb []
  simp only [List.nil_append, List.length_nil] at this ⊢
  rw [this]
  cases fills (plc b) b <;> rfl
theorem tw_mem : ∀ (l : List St) (q : St), q ∈ l.takeWhile (fun q => q.k ≠ 0) → q.k ≠ 0
  | [], q, h => by simp at h
  | o :: l, q, h => by
    by_cases e : o.k = 0
    · simp [List.takeWhile_cons, e] at h
    · rw [List.takeWhile_cons, if_pos (by simpa using e)] at h
      rcases List.mem_cons.1 h with rfl | h
      · exact e
      · exact tw_mem l q h
theorem segs_ok : ∀ (l : List St), (∀ o ∈ l, kOk o) → ∀ b ∈ segs l, ∀ o ∈ b, 1 ≤ o.k ∧ o.k ≤ 4
  | [], _, b, hb => by simp [segs] at hb
  | o :: l, hl, b, hb => by
    have hl' : ∀ o ∈ l, kOk o := fun q hq => hl q (List.mem_cons_of_mem _ hq)
    by_cases h : o.k = 0
    · rw [segs, if_pos h] at hb
      rcases List.mem_cons.1 hb with rfl | hb
      · intro q hq
        have h1 := hl' q (List.takeWhile_subset _ hq)
        have h2 := tw_mem l q hq
        exact ⟨by have := h1.1; omega, h1.2⟩
      · exact segs_ok l hl' b hb
    · rw [segs, if_neg h] at hb
      exact segs_ok l hl' b hb
theorem all_ref : ∀ (S : List (List St)) (fs : List Fn) (L : List (List I4)), (∀ b ∈ S, ∀ o ∈ b, 1 ≤ o.k ∧ o.k ≤ 4) → fs.map toP = S.map (foldI pf0) → allR fs L = refP S L
  | [], fs, L, _, h => by
    have : fs = [] := by simpa using h
    subst this
    rfl
  | b :: S, [], L, _, h => by simp at h
  | b :: S, x :: fs, L, hS, h => by
    rw [List.map_cons, List.map_cons, List.cons.injEq] at h
    obtain ⟨h1, h2⟩ := h
    have e1 : ledR x.f x.ls x.cs = fills (plc b) b := by
      rw [← led_foldI b (hS b List.mem_cons_self), ← h1]
      rfl
    show (match ledR x.f x.ls x.cs with | none => none | some c => allR fs (L ++ [c])) = (match fills (plc b) b with | none => none | some c => refP S (L ++ [c]))
    rw [e1]
    cases fills (plc b) b with
    | none => rfl
    | some c => exact all_ref S fs _ (fun b hb => hS b (List.mem_cons_of_mem _ hb)) h2
/-- what the builder's end is. -/
def endR (m : List St) : Option (List (List I4)) := refP (segs m) []
theorem endR_eq {m : List St} (hm : ∀ o ∈ m, kOk o) {fs : List Fn} (h : fs.map toP = run m) : allR fs [] = endR m :=
  all_ref _ _ _ (segs_ok m hm) (by rw [h, run_eq])
end Go.Proofs.Ytdneblbaofhehaa.bd
