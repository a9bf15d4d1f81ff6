/- Rows as a picture (layer 38): pure; bytes of one's own. -/
import Derived.Test.YtdgjlniciehjbaaDoorPcC
namespace Go.Proofs.YtdgjlniciehjbaaDoor.pc
open Go.ChangeShapes Go.WideShapes Go.ChangeAt Go.RowKit
open Go.Proofs.YtdgjlniciehjbaaDoor.gr (C2 d2 chkE Rts Rt chkE_rts PM enC recC RV.two rcheck_v check_v cel2)
open Go.Proofs.YtdgjlniciehjbaaDoor.st Go.Proofs.YtdgjlniciehjbaaDoor.wd
set_option linter.unusedVariables false
set_option linter.unusedSimpArgs false
def sgn (b : Bool) : UInt8 := if b then 60 else 111
/-- the sign at a place, by the first n cells. -/
def sgnN (l : List C2) (at_ : Int) : Nat → UInt8
  | 0 => 46
  | n + 1 => if (l.getD n d2).1 = at_ then sgn (l.getD n d2).2 else sgnN l at_ n
def sgs (l : List C2) (m n : Nat) : List UInt8 := (List.range m).map fun (i : Nat) => sgnN l (i : Int) n
def wid (l : List C2) : Nat → Nat
  | 0 => 0
  | n + 1 => (l.getD n d2).1.toNat + 1
def charR (l : List C2) : List UInt8 := sgs l (wid l l.length) l.length
def chN (L : List (List C2)) : Nat → List UInt8
  | 0 => []
  | n + 1 => chN L n ++ charR (L.getD n []) ++ [10]
def badR (l : List C2) : Bool := decide (199 < (l.getD (l.length - 1) d2).1)
def badRs (L : List (List C2)) : Nat → Bool
  | 0 => false
  | n + 1 => badRs L n || badR (L.getD n [])
theorem badRs_stay (L : List (List C2)) (k : Nat) : ∀ m, k ≤ m → badRs L k = true → badRs L m = true
  | 0, h, e => by obtain rfl : k = 0 := by omega
                  exact e
  | m + 1, h, e => by
    rcases Nat.lt_or_ge m k with h1 | h1
    · obtain rfl : k = m + 1 := by omega
      exact e
    · rw [badRs, badRs_stay L k m h1 e]; rfl
def chE (L : List (List C2)) : Int := if chkE L = 0 then (if badRs L L.length then 3 else 0) else chkE L
def chT (L : List (List C2)) : List UInt8 := if chE L = 0 then chN L L.length else []
theorem sgs_succ (l : List C2) (m n : Nat) : sgs l (m + 1) n = sgs l m n ++ [sgnN l (m : Int) n] := by unfold sgs; rw [List.range_succ, List.map_append]; rfl
theorem sgs_len (l : List C2) (m n : Nat) : (sgs l m n).length = m := by unfold sgs; simp
theorem wid_le {l : List C2} (hl : Rt l) {n : Nat} (h : n < l.length) : (wid l n : Int) ≤ (l.getD n d2).1 := by
  cases n with
  | zero => have := hl.nn 0 h; simp [wid]; exact this
  | succ n =>
    have h1 := hl.u n h
    have h2 := hl.nn n (by omega)
    rw [wid]
    omega
theorem sgn_dot {l : List C2} (hl : Rt l) : ∀ n, n ≤ l.length → ∀ p : Int, (wid l n : Int) ≤ p → sgnN l p n = 46
  | 0, _, p, _ => rfl
  | n + 1, h, p, hp => by
    have h0 := hl.nn n (by omega)
    have h1 := wid_le hl (n := n) (by omega)
    rw [wid] at hp
    rw [sgnN, if_neg (by omega)]
    exact sgn_dot hl n (by omega) p (by omega)
/-- a cell more: what lies ahead of it is as it was. -/
theorem sgs_cell {l : List C2} (hl : Rt l) {n : Nat} (h : n < l.length) : sgs l (wid l (n + 1)) (n + 1) = sgs l (l.getD n d2).1.toNat n ++ [sgn (l.getD n d2).2] := by
  rw [wid, sgs_succ]
  have h0 := hl.nn n h
  congr 1
  · unfold sgs
    apply List.map_congr_left
    intro i hi
    rw [List.mem_range] at hi
    rw [sgnN, if_neg (by omega)]
  · rw [sgnN, if_pos (by omega)]
theorem badR_of {l : List C2} (hl : Rt l) {j : Nat} (hj : j < l.length) (h : 199 < (l.getD j d2).1) : badR l = true := by
  unfold badR
  have : (l.getD j d2).1 ≤ (l.getD (l.length - 1) d2).1 := by
    rcases Nat.lt_or_ge j (l.length - 1) with h1 | h1
    · exact Int.le_of_lt (hl.mono j _ h1 (by omega))
    · obtain rfl : j = l.length - 1 := by omega
      exact Int.le_refl _
  exact decide_eq_true (by omega)
theorem badR_no {l : List C2} (h : ¬ 199 < (l.getD (l.length - 1) d2).1) : badR l = false := by
  unfold badR
  exact decide_eq_false h
theorem wid_last {l : List C2} (hl : Rt l) : wid l l.length = (l.getD (l.length - 1) d2).1.toNat + 1 := by
  obtain ⟨n, hn⟩ : ∃ n, l.length = n + 1 := ⟨l.length - 1, by have := hl.p; omega⟩
  rw [hn, wid, Nat.add_sub_cancel]
theorem char_len {l : List C2} (hl : Rt l) (h : badR l = false) : (charR l).length ≤ 200 := by
  unfold charR
  rw [sgs_len, wid_last hl]
  unfold badR at h
  have h := of_decide_eq_false h
  omega
theorem ch_len {L : List (List C2)} (hL : Rts L) : ∀ n, n ≤ L.length → badRs L n = false → (chN L n).length ≤ 201 * n
  | 0, _, _ => by simp [chN]
  | n + 1, h, hb => by
    rw [badRs, Bool.or_eq_false_iff] at hb
    have h1 := ch_len hL n (by omega) hb.1
    have h2 := char_len (hL.r n (by omega)) hb.2
    rw [chN]
    simp only [List.length_append, List.length_cons, List.length_nil]
    omega
/-- a byte of a row of bytes. -/
def enB (c : UInt8) : List Value := [.int .u8 (c.toNat : Int)]
theorem recB : Rec 1 enB := ⟨by omega, fun _ => rfl, fun x u hu => by simp [enB] at hu; subst hu; rfl⟩
theorem infoU : (Tryd.prog.info? 5).map (fun i => (i.zero, i.size, i.bytes)) = some (some (.int .u8 0), 1, 1) := by kernel_rfl
theorem one_byte (w : World) (c : UInt8) : ∀ j u, (enB c)[j]? = some u → (w.alloc (.cells #[.int .u8 (c.toNat : Int)] 5)).cell? ((⟨w.heap.size, 0, none⟩ : Addr).add j) = some u := by
  intro j u hu
  match j, hu with
  | 0, hu =>
    simp [enB] at hu
    subst hu
    have := cel (heap_new w #[.int .u8 (c.toNat : Int)] 5) 0
    simp [Addr.add, this]
/-- a row of one's own has one more: what stays. -/
theorem oapp {α : Type} {k B e e' : Nat} {en : α → List Value} {w7 w4 : World} {v : Value} {xs : List α} {g8 : Nat} {cs : Array Value} (ho : OR k en w7 B e v xs)
    (hx : w7.heap[g8]? = some (.cells cs e' (0, 0))) (hne : e ≠ e') (hg : w7.grownBy w4 v.ownBlock) : w4.heap[g8]? = some (.cells cs e' (0, 0)) := by
  rw [hg.block g8 (Array.getElem?_eq_some_iff.1 hx).1 ?_]
  · exact hx
  · intro h
    obtain ⟨_, ⟨e1, _⟩ | ⟨g2, cap2, cur2, e1, _, hh2, _⟩⟩ := ho
    · rw [e1] at h; simp [Value.ownBlock] at h
    · rw [e1] at h
      simp [Value.ownBlock] at h
      subst h
      rw [hx] at hh2
      simp at hh2
      exact hne hh2.2.symm
theorem obel {α : Type} {k B e : Nat} {en : α → List Value} {w0 w7 w4 : World} {v : Value} {xs : List α} (hB : B = w0.heap.size) (hb : Below w0.heap.size w0 w7) (ho : OR k en w7 B e v xs) (hg : w7.grownBy w4 v.ownBlock) : Below w0.heap.size w0 w4 :=
  hb.trans ⟨hg.os, hg.tape, hg.output, hg.size, fun p hp => hg.block p (Nat.lt_of_lt_of_le hp hb.size) (fun e => by have := (ho.lt p e.symm).1; omega)⟩
def slen : Value → Nat
  | .slice _ m _ => m
  | _ => 0
theorem str_of {w : World} {B e : Nat} {a : Option Addr} {m c : Nat} {xs : List UInt8} (ho : OR 1 enB w B e (.slice a m c) xs) : (convert 40 9 (.slice a m c)).run Tryd.prog w = .ok (.string ⟨xs.toArray⟩) w := by
  have hv := OR.rv recB ho
  obtain rfl : m = xs.length := hv.len.1
  cases xs with
  | nil =>
    cases a with
    | some a => exact run_convert_bytes_back w _ _ 5 a c [] Tryd.underlying40 Tryd.underlying5 Tryd.underlying9 (by intro j hj; simp at hj)
    | none =>
      rw [run_convert_bytes_string w _ _ 5 none _ _ Tryd.underlying40 Tryd.underlying5 Tryd.underlying9]
      simp [Conv.bytesToString, go_sem]
      rfl
  | cons x r =>
    obtain ⟨b, o, rfl, _, _⟩ := hv.at 0 x rfl
    refine run_convert_bytes_back w _ _ 5 _ c (x :: r) Tryd.underlying40 Tryd.underlying5 Tryd.underlying9 ?_
    intro j hj
    obtain ⟨b', o', e', _, hc⟩ := hv.at j _ (List.getElem?_eq_getElem hj)
    cases e'
    have := hc 0 _ rfl
    simp only [Nat.mul_one, Nat.add_zero] at this
    rw [Go.WideShapes.add_plain]
    exact this
end Go.Proofs.YtdgjlniciehjbaaDoor.pc
