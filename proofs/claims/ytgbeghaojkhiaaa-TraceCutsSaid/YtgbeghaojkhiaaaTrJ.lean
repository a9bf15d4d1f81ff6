/- Rows: what a loop's iterations have come to, in memory (layer 34). -/
import Derived.Test.YtgbeghaojkhiaaaTrI
namespace Go.Proofs.Ytgbeghaojkhiaaa.tr
open Go.ChangeShapes Go.WideShapes Go.ChangeAt Go.RowKit Go.Maps
open Go.Proofs.Ytgbeghaojkhiaaa.ro
open Go.Proofs.Ytgbeghaojkhiaaa.gr (C2 enC recC d2 PM)
set_option linter.unusedVariables false
set_option linter.unusedSimpArgs false
abbrev Sl := Option Addr × Nat × Nat
def slV (s : Sl) : Value := .slice s.1 s.2.1 s.2.2
def enS (s : Sl) : List Value := [slV s]
theorem recS : Rec 1 enS := ⟨by omega, fun _ => rfl, fun x u hu => by simp [enS] at hu; rcases hu with rfl; rfl⟩
theorem infS : (Try.prog.info? 35).map (fun i => (i.zero, i.size, i.bytes)) = some (some (.slice none 0 0), 1, 24) := by kernel_rfl
theorem infCe : (Try.prog.info? 37).map (fun i => (i.zero, i.size, i.bytes)) = some (some (.agg #[.int .i64 0, .bool false]), 2, 16) := by kernel_rfl
theorem flat_map (ss : List Sl) : flat enS ss = ss.map slV := by
  induction ss with
  | nil => rfl
  | cons a l ih => simp only [flat, List.flatMap_cons, List.map_cons] at ih ⊢; rw [ih]; rfl
/-- a row's rows and, of each iteration, its row's number from 1 on. -/
abbrev St := List (List C2) × (Int → Option Nat)
def st0 : St := ([], fun _ => none)
def radd (x : St) (i : Int) : St := (x.1 ++ [[(0, false)]], fun z => if z = i then some (x.1.length + 1) else x.2 z)
def rapp (x : St) (j : Nat) (c : C2) : St := (x.1.set j (x.1.getD j [] ++ [c]), x.2)
def rst (lp : Int) (x : St) (e : I4) : St :=
  if e.2.1 ≠ lp then x else if e.1 = 1 then radd x e.2.2.1 else if e.1 = 3 ∨ e.1 = 6 then (match x.2 e.2.2.1 with | some m => rapp x (m - 1) (e.2.2.2, decide (e.1 = 3)) | none => x) else x
def rss (lp : Int) (es : List I4) : St := es.foldl (rst lp) st0
theorem rss_snoc (lp : Int) {es : List I4} {k : Nat} {e : I4} (he : es[k]? = some e) : rss lp (es.take (k + 1)) = rst lp (rss lp (es.take k)) e := by
  rw [List.take_add_one, he]
  simp [rss]
structure ROK (k : Nat) (x : St) : Prop where
  l : x.1.length ≤ k
  m : ∀ (i : Nat) l, x.1[i]? = some l → l.length ≤ k + 1
  f : ∀ z m, x.2 z = some m → 1 ≤ m ∧ m ≤ x.1.length
theorem ROK.step {k : Nat} {x : St} (h : ROK k x) (lp : Int) (e : I4) : ROK (k + 1) (rst lp x e) := by
  have h0 : ROK (k + 1) x := ⟨Nat.le_succ_of_le h.l, fun i l hl => Nat.le_succ_of_le (h.m i l hl), h.f⟩
  unfold rst
  split
  · exact h0
  · split
    · refine ⟨by simp [radd]; exact h.l, fun i l hl => ?_, fun z m hm => ?_⟩
      · simp only [radd] at hl
        by_cases e2 : i < x.1.length
        · rw [List.getElem?_append_left e2] at hl
          exact h0.m i l hl
        · rw [List.getElem?_append_right (by omega)] at hl
          rcases Nat.eq_zero_or_pos (i - x.1.length) with h1 | h1
          · rw [h1] at hl; cases hl; simp
          · rw [List.getElem?_eq_none (by simp; omega)] at hl; cases hl
      · simp only [radd] at hm ⊢
        rw [List.length_append]
        split at hm
        · cases hm; simp
        · have := h.f z m hm
          simp
          omega
    · split
      · split
        · rename_i m hm
          have hf := h.f _ _ hm
          refine ⟨by simp [rapp]; exact h0.l, fun i l hl => ?_, fun z m hm => by have := h.f z m hm; simpa [rapp] using this⟩
          simp only [rapp] at hl
          by_cases e2 : m - 1 = i
          · subst e2
            rw [List.getElem?_set_self (by omega)] at hl
            cases hl
            rw [List.length_append, List.getD_eq_getElem?_getD]
            have : x.1[m - 1]? = some (x.1[m - 1]'(by omega)) := List.getElem?_eq_getElem (by omega)
            have h2 := h.m _ _ this
            rw [this]
            simp
            omega
          · rw [List.getElem?_set_ne e2] at hl
            exact h0.m i l hl
        · exact h0
      · exact h0
theorem rok (lp : Int) (es : List I4) : ∀ k, k ≤ es.length → ROK k (rss lp (es.take k)) := by
  intro k
  induction k with
  | zero => exact fun _ => ⟨Nat.le_refl _, fun i l h => by simp [rss, st0] at h, fun z m h => by simp [rss, st0] at h⟩
  | succ k ih =>
    intro hk
    have he : es[k]? = some (es[k]'(by omega)) := List.getElem?_eq_getElem (by omega)
    rw [rss_snoc lp he]
    exact (ih (by omega)).step lp _
/-- a map of whole numbers. -/
def inE : Value → Option (Dm × List MemPlace)
  | .int .i64 n => some (.lit (.int .i64 n), [])
  | _ => none
theorem inE_inv {v : Value} {n : Int} {ps : List MemPlace} (h : inE v = some (.lit (.int .i64 n), ps)) : v = .int .i64 n := by
  unfold inE at h
  split at h
  · rename_i b'
    simp only [Option.some.injEq, Prod.mk.injEq, DataW.lit.injEq, Lit.int.injEq, true_and] at h
    rw [h.1]
  · cases h
def zi : Dm := .lit (.int .i64 0)
def Li (D : Dm) (f : Int → Option Nat) : Prop := IsMap D ∧ ∀ z : Int, D.atKey (kz z) zi = (match f z with | some b => .lit (.int .i64 (b : Int)) | none => zi)
theorem Li.empty : Li (.map []) (fun _ => none) := ⟨isMap_empty, fun z => rfl⟩
theorem Li.put {D : Dm} {f : Int → Option Nat} (h : Li D f) (z : Int) (b : Nat) : Li (D.put (kz z) (.lit (.int .i64 (b : Int)))) (fun y => if y = z then some b else f y) := by
  refine ⟨h.1.put _ _, fun y => ?_⟩
  by_cases e : y = z
  · subst e
    simp only [if_true]
    exact atKey_put_same h.1 (kz_key y) _ _
  · simp only [e, if_false]
    exact (atKey_put_other (kz_ne e) _ _).trans (h.2 y)
theorem ownsMap_blkI {w w' : World} {b n : Nat} {D : Dm} (h : w.ownsMap Try.prog 3 inE b n D) (hb : w'.heap[b]? = w.heap[b]?) : w'.ownsMap Try.prog 3 inE b n D := by
  obtain ⟨es, c, h1, h2⟩ := h
  exact ⟨es, c, hb.trans h1, h2⟩
theorem OR.setS {w : World} {B e g n c i : Nat} {ss : List Sl} {s' : Sl} (h : OR 1 enS w B e (.slice (some ⟨g, 0, none⟩) n c) ss) : OR 1 enS (w.setCell ⟨g, i, none⟩ (slV s')) B e (.slice (some ⟨g, 0, none⟩) n c) (ss.set i s') := by
  obtain ⟨hl, ⟨e0, _⟩ | ⟨g', cap, cur, e0, hB, hh, h1, h2, h3, h4⟩⟩ := h
  · cases e0
  · rw [Value.slice.injEq, Option.some.injEq, Addr.mk.injEq] at e0
    obtain ⟨⟨rfl, _, _⟩, rfl, rfl⟩ := e0
    refine ⟨by rw [flat_map]; simp, .inr ⟨g, c, cur.set! i (slV s'), by rw [List.length_set], hB, set_blk w g i _ hh, by rw [List.length_set]; exact h1, h2, by simpa using h3, ?_⟩⟩
    rw [flat_map, List.length_set, List.map_set, ← flat_map, ← h4]
    simp [List.take_set]
structure RW (w0 w : World) (ρ : Ro) (Mb cnt : Nat) (v : Value) (ss : List Sl) (x : St) : Prop where
  z : ∀ k, k < w0.heap.size → ρ k = 0
  b : Below w0.heap.size w0 w
  r : RR 1 enS w ρ 1 35 v ss
  len : ss.length = x.1.length
  it : ∀ (i : Nat) s l, ss[i]? = some s → x.1[i]? = some l → RR 2 enC w ρ (10 + i) 37 (slV s) l
  m : ∃ D n, w.ownsMap Try.prog 3 inE Mb n D ∧ Li D x.2 ∧ n ≤ cnt
  rm : ρ Mb = 2
section
variable {Q : Nat → Prop} {w0 w w' : World} {ρ ρ' : Ro} {Mb cnt : Nat} {v : Value} {ss : List Sl} {x : St}
theorem RW.keep (h : RW w0 w ρ Mb cnt v ss x) (hk : KX Q ρ ρ' w w') (hq : ∀ d, d ≠ 3 → ¬ Q d) : RW w0 w' ρ' Mb cnt v ss x := by
  have hz := hk.bel (hq 0 (by omega)) h.z h.b.size
  obtain ⟨D, n, hm, hl, hn⟩ := h.m
  have e2 := hk.k _ (hq 2 (by omega)) Mb hm.lt h.rm
  exact ⟨hz.2, h.b.trans hz.1, h.r.keep hk (hq 1 (by omega)), h.len, fun i s l hs hl => (h.it i s l hs hl).keep hk (hq _ (by omega)), ⟨D, n, ownsMap_blkI hm e2.2, hl, hn⟩, e2.1⟩
theorem RW.below (h : RW w0 w ρ Mb cnt v ss x) (hb : Below w.heap.size w w') : RW w0 w' (ext ρ w.heap.size 3) Mb cnt v ss x :=
  h.keep (KX.below (fun _ => False) ρ 3 hb) (fun _ _ h => h)
theorem RW.add (h : RW w0 w ρ Mb cnt v ss x) {W w2 : World} {v' : Value} {g : Nat} (hb : Below w.heap.size w W) (hB : w.heap.size ≤ g) (ho : W.heap[g]? = some (.cells #[.int .i64 0, .bool false] 37 (0, 0)))
    (ho2 : OR 1 enS w2 0 35 v' (ss ++ [(some ⟨g, 0, none⟩, 1, 1)])) (hg : W.grownBy w2 v.ownBlock) (hor : v'.ownBlock = v.ownBlock ∨ v'.ownBlock = some W.heap.size) : ∃ ρ', RW w0 w2 ρ' Mb cnt v' (ss ++ [(some ⟨g, 0, none⟩, 1, 1)]) (x.1 ++ [[(0, false)]], x.2) := by
  have hk1 : KX (fun _ => False) ρ (fun b => if b < w.heap.size then ρ b else if b = g then 10 + ss.length else 3) w W := ⟨hb.os, hb.tape, hb.output, hb.size, fun d _ k hk e => ⟨by show (if _ then _ else _) = _; rw [if_pos hk]; exact e, hb.block k hk⟩⟩
  have h1 := h.keep hk1 (fun _ _ h => h)
  have hBr : (fun b => if b < w.heap.size then ρ b else if b = g then 10 + ss.length else 3) g = 10 + ss.length := by
    show (if _ then _ else _) = _
    rw [if_neg (by omega), if_pos rfl]
  obtain ⟨ρ1, hρ⟩ : ∃ ρ1 : Ro, (fun b => if b < w.heap.size then ρ b else if b = g then 10 + ss.length else 3) = ρ1 := ⟨_, rfl⟩
  rw [hρ] at h1 hBr
  have hin : RR 2 enC W ρ1 (10 + ss.length) 37 (slV (some ⟨g, 0, none⟩, 1, 1)) [(0, false)] := ⟨⟨rfl, .inr ⟨g, 1, _, rfl, Nat.zero_le _, ho, Nat.le_refl _, by decide, rfl, rfl⟩⟩, fun k hk => by cases hk; exact hBr⟩
  obtain ⟨hr2, hk2⟩ := h1.r.grown hg ho2 hor
  have hz2 := hk2.bel (by omega) h1.z h1.b.size
  obtain ⟨D, n, hm, hl, hn⟩ := h1.m
  have e2 := hk2.k 2 (by omega) Mb hm.lt h1.rm
  refine ⟨_, hz2.2, h1.b.trans hz2.1, hr2, by simp [h.len], fun i s l hs hl => ?_, ⟨D, n, ownsMap_blkI hm e2.2, hl, hn⟩, e2.1⟩
  by_cases e : i < ss.length
  · rw [List.getElem?_append_left e] at hs
    rw [List.getElem?_append_left (by rw [← h.len]; exact e)] at hl
    exact (h1.it i s l hs hl).keep hk2 (by omega)
  · rw [List.getElem?_append_right (by omega)] at hs
    rw [List.getElem?_append_right (by rw [← h.len]; omega), ← h.len] at hl
    rcases Nat.eq_zero_or_pos (i - ss.length) with h0 | h0
    · rw [h0] at hs hl
      cases hs
      cases hl
      obtain rfl : i = ss.length := by omega
      exact hin.keep hk2 (by omega)
    · rw [List.getElem?_eq_none (by simp; omega)] at hs; cases hs
theorem RW.mapped (h : RW w0 w ρ Mb cnt v ss x) {D : Dm} {n cnt' : Nat} {f : Int → Option Nat} (hm : w'.ownsMap Try.prog 3 inE Mb n D) (hl : Li D f) (hn : n ≤ cnt') (hg : w.grownBy w' (some Mb)) : RW w0 w' (ext ρ w.heap.size 3) Mb cnt' v ss (x.1, f) := by
  obtain ⟨D0, n0, hm0, _⟩ := h.m
  have hk : KX (· = 2) ρ (ext ρ w.heap.size 3) w w' := ⟨hg.os, hg.tape, hg.output, hg.size, fun d hd q hq e => ⟨by rw [ro.ext_lt ρ 3 hq]; exact e, hg.block q hq (fun e2 => hd (by cases e2; rw [← e]; exact h.rm))⟩⟩
  have hz := hk.bel (by omega) h.z h.b.size
  exact ⟨hz.2, h.b.trans hz.1, h.r.keep hk (by omega), h.len, fun i s l hs hl => (h.it i s l hs hl).keep hk (by omega), ⟨D, n, hm, hl, hn⟩, by rw [ro.ext_lt ρ 3 hm0.lt]; exact h.rm⟩
theorem RW.app (h : RW w0 w ρ Mb cnt v ss x) {j g n cp : Nat} {s s' : Sl} {l : List C2} {c : C2} (hv : v = .slice (some ⟨g, 0, none⟩) n cp) (hs : ss[j]? = some s) (hl : x.1[j]? = some l) (hg : w.grownBy w' (slV s).ownBlock) (ho : OR 2 enC w' 0 37 (slV s') (l ++ [c])) (hor : (slV s').ownBlock = (slV s).ownBlock ∨ (slV s').ownBlock = some w.heap.size) :
    w'.cell? ⟨g, j, none⟩ = some (slV s) ∧ w'.frozen? ⟨g, j, none⟩ = false ∧ ∃ ρ', RW w0 (w'.setCell ⟨g, j, none⟩ (slV s')) ρ' Mb cnt v (ss.set j s') (rapp x j c) := by
  have hin := h.it j s l hs hl
  obtain ⟨hi2, hk2⟩ := hin.grown hg ho hor
  have hz2 := hk2.bel (by omega) h.z h.b.size
  have hr2 := h.r.keep hk2 (by omega)
  obtain ⟨D, nn, hm, hL, hn⟩ := h.m
  have e2 := hk2.k 2 (by omega) Mb hm.lt h.rm
  have hgr : ext ρ w.heap.size (10 + j) g = 1 := hr2.r g (by rw [hv]; rfl)
  have hjs := (List.getElem?_eq_some_iff.1 hs).1
  have hjl := (List.getElem?_eq_some_iff.1 hl).1
  have hcell : w'.cell? ⟨g, j, none⟩ = some (slV s) ∧ w'.frozen? ⟨g, j, none⟩ = false := by
    have h0 := hr2.o
    rw [hv] at h0
    obtain ⟨_, ⟨e0, _⟩ | ⟨g', cap, cur, e0, _, hh, h1, h2, h3, h4⟩⟩ := h0
    · cases e0
    · rw [Value.slice.injEq, Option.some.injEq, Addr.mk.injEq] at e0
      obtain ⟨⟨rfl, _, _⟩, rfl, rfl⟩ := e0
      refine ⟨?_, frz hh j⟩
      rw [cel hh j]
      have h5 := congrArg (fun l => l[j]?) h4
      simp only [Nat.mul_one] at h5
      rw [List.getElem?_take_of_lt hjs, flat_map, List.getElem?_map, hs] at h5
      simpa using h5
  have hk3 := KX.set (r := ext ρ w.heap.size (10 + j)) (w := w') (c := 1) g j (slV s') hgr
  have hz3 := hk3.bel (by omega) hz2.2 (Nat.le_trans h.b.size hz2.1.size)
  have hm2 := ownsMap_blkI hm e2.2
  have e3 := hk3.k 2 (by omega) Mb hm2.lt e2.1
  refine ⟨hcell.1, hcell.2, _, hz3.2, (h.b.trans hz2.1).trans hz3.1, ⟨?_, fun k hk => hr2.r k hk⟩, by simp [rapp, h.len], fun i s2 l2 hs2 hl2 => ?_, ⟨D, nn, ownsMap_blkI hm2 e3.2, hL, hn⟩, e2.1⟩
  · rw [hv]
    exact OR.setS (by rw [← hv]; exact hr2.o)
  · simp only [rapp] at hl2
    by_cases e : j = i
    · subst e
      rw [List.getElem?_set_self hjs] at hs2
      rw [List.getElem?_set_self hjl, List.getD_eq_getElem?_getD, hl] at hl2
      cases hs2
      cases hl2
      exact hi2.keep hk3 (by omega)
    · rw [List.getElem?_set_ne e] at hs2 hl2
      exact ((h.it i s2 l2 hs2 hl2).keep hk2 (by omega)).keep hk3 (by omega)
theorem RW.pm (h : RW w0 w ρ Mb cnt v ss x) : PM w v x.1 := by
  obtain ⟨hl, ⟨e0, h0⟩ | ⟨g, cap, cur, e0, _, hh, h1, h2, h3, h4⟩⟩ := h.r.o
  · have : x.1 = [] := List.eq_nil_of_length_eq_zero (by rw [← h.len]; exact h0)
    rw [e0, this]
    exact Go.Proofs.Ytgbeghaojkhiaaa.gr.PM.nil w
  · refine ⟨some ⟨g, 0, none⟩, cap, by rw [e0, h.len], by rw [← h.len]; exact h1, h2, fun i hi => ?_⟩
    have his : i < ss.length := by rw [h.len]; exact hi
    have hs : ss[i]? = some ss[i] := List.getElem?_eq_getElem his
    have hl2 : x.1[i]? = some (x.1.getD i []) := by rw [List.getD_eq_getElem?_getD, List.getElem?_eq_getElem hi]; rfl
    refine ⟨g, 0, slV ss[i], rfl, lt_of hh, ?_, OR.rv recC (h.it i _ _ hs hl2).o⟩
    rw [Nat.zero_add, cel hh i]
    have h5 := congrArg (fun l => l[i]?) h4
    simp only [Nat.mul_one] at h5
    rw [List.getElem?_take_of_lt his, flat_map, List.getElem?_map, hs] at h5
    simpa using h5
end
end Go.Proofs.Ytgbeghaojkhiaaa.tr
