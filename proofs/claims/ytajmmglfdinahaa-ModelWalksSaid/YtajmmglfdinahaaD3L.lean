/- A walk and a deque in one piece side by side (layer 14). -/
import Derived.Test.YtajmmglfdinahaaD3K
import Derived.Test.YtajmmglfdinahaaMoW
namespace Go.Proofs.Ytajmmglfdinahaa
open Go.ChangeShapes Go.WideShapes Go.ChangeAt Go.RowKit Go.Proofs.Ytajmmglfdinahaa.mo
attribute [local go_sem ↓] Go.wp_at_zero Go.wp_at_succ
set_option linter.unusedVariables false
set_option linter.unusedSimpArgs false
theorem run14_of (S g A n : Nat) (xs xs' : List Int) (o o' : Wk) (w0 w : World) (hR : RunC S g A n xs o xs' o') (hn : n < 100) (h : WS w0 w S g A xs o) :
    Calls Try.prog 36 #[.pointer (some ⟨A, 0, none⟩), .pointer (some ⟨S, 0, none⟩)] w fun e w' => e = .returned (.bool true) ∧ WS w0 w' S g A xs' o' ∧ Fr g A w w' := by
  have H0 := Lib.hid hR
  have H1 := Lib.hid h
  have hp := hR.pos
  clear h hR
  go_enter Try.func36, Try.ntmps36
  go_wp2_with fail
  go_loopw [5] (fun i wr => ∃ (k m : Nat) (ys : List Int) (q : Wk), k + m = n ∧ 1 ≤ m ∧ i = .int .i64 (k : Int) ∧ Hid (RunC S g A m ys q xs' o') ∧ Hid (WS w0 wr S g A ys q) ∧ Hid (Fr g A w wr)) (fun i _ => 101 - (intOf i).toNat)
  case atStart => exact ⟨0, n, xs, o, by omega, hp, by simp, H0, H1, Lib.hid (Fr.refl g A w)⟩
  case round =>
    clear H0 H1
    obtain ⟨k, m, ys, q, hkm, hm1, rfl, HR, HW, HF⟩ := hrel
    cases HR.out with
    | one hC hnil =>
      go_wp2_with fail
      refine (step_of S g A ys xs' q o' true w0 _ hC (Lib.hid (Or.inl ⟨hnil, rfl⟩)) HW.out).mono ?_
      rintro e w1 ⟨rfl, hS, hF⟩
      have HS := Lib.hid hS
      have HF1 := Lib.hid (HF.out.trans hF)
      clear hS hF HR hC hnil
      go_wp2_with fail
      go_ret
      exact ⟨rfl, HS.out, HF1.out⟩
    | @more m' _ ys1 _ _ q1 _ hC hf hR =>
      have hp1 := hR.pos
      go_wp2_with fail
      refine (step_of S g A ys ys1 q q1 false w0 _ hC (Lib.hid (Or.inr (by obtain ⟨f, hf⟩ := hf; exact ⟨f, hf, rfl⟩))) HW.out).mono ?_
      rintro e w1 ⟨rfl, hS, hF⟩
      have HS := Lib.hid hS
      have HF1 := Lib.hid (HF.out.trans hF)
      have HR1 := Lib.hid hR
      clear hS hF HR hC hf hR
      go_wp2_with fail
      go_roundw
      case rel => exact ⟨k + 1, m', ys1, q1, by omega, by omega, by go_num, HR1, HS, HF1⟩
      case measure => simp [intOf]; omega
section
variable {w0 w w' w'' : World} {S g Pl D A M B : Nat} {xs st st' : List Int} {most : Int} {v v' : Value} {o : Wk} {r : Value}
theorem oi_fr {v : Value} {xs : List Int} (h : OI w B v xs) (hb : Below w.heap.size w w') (hF : Fr g A w' w'') (hg : g < B) (hA : w.heap.size ≤ A) : OI w'' B v xs := by
  obtain ⟨hl, h | ⟨k, cap, cur, rfl, hk, hh, h1, h2, h3, h4⟩⟩ := h
  · exact ⟨hl, .inl h⟩
  · have hl2 := (Array.getElem?_eq_some_iff.1 hh).1
    have hh2 := (hb.block k hl2).trans hh
    exact ⟨hl, .inr ⟨k, cap, cur, rfl, hk, (hF.2 k (Array.getElem?_eq_some_iff.1 hh2).1 (by omega) (by omega)).trans hh2, h1, h2, h3, h4⟩⟩
theorem ms_fr (h : MS B M w most v st) (hb : Below w.heap.size w w') (hF : Fr g A w' w'') (hg : g < B) (hA : w.heap.size ≤ A) : MS B M w'' most v st := by
  have hl := h.lt
  have hbase := h.base
  have h2 := (hb.block M hl).trans h.obj
  exact ⟨(hF.2 M (lt_of_heap h2) (by omega) (by omega)).trans h2, oi_fr h.row hb hF hg hA, h.nm, h.base⟩
theorem LS.high (h : LS w0 w S g Pl D xs) (hb : Below M w w') (h0 : w0.heap.size ≤ M) (hS : S < M) (hg : g < M) (hP : Pl < M) : LS w0 w' S g Pl D xs :=
  ⟨⟨by
    have := h.j.1
    unfold StoreAt at this ⊢
    rw [hb.block S hS, hb.block g hg]
    exact this, h.j.2.1.trans (hb.mono h0), h.j.2.2⟩, (hb.block Pl hP).trans h.p, h.pg⟩
theorem WAt.km (h : WAt w A o) (hk : KM M v w w') (hA : A ≠ M) (hv : v.ownBlock ≠ some A) : WAt w' A o := (hk.2 A h.lt hA hv).trans h
theorem push_any (M : Nat) (most : Int) (v : Value) (st st' : List Int) (x : Int) (b : Bool) (w : World) (h : MS M M w most v st) (hl : st.length ≤ 2000) (hb : Hid ((b = true ∧ (st.length : Int) < most ∧ st' = st ++ [x]) ∨ (b = false ∧ most ≤ (st.length : Int) ∧ st' = st))) :
    Calls Try.prog 29 #[.pointer (some ⟨M, 0, none⟩), .int .i64 x] w (MPost M M most v st' (.bool b) w) := by
  rcases hb.out with ⟨rfl, h1, rfl⟩ | ⟨rfl, h1, rfl⟩
  · exact push_yes M M most v st x w h h1 hl
  · refine (push_no M M most v _ x w h h1).mono ?_
    rintro e w' ⟨rfl, n, rfl⟩
    have hb : Below w.heap.size w (w.drewN n) := below_drewN (Below.refl _ _) n
    exact ⟨rfl, v, h.below hb, hb.mono (Nat.le_of_lt h.lt), KM.of_below hb, .inl rfl⟩
end
/-- The slots from the head on hold the deque. -/
def Hold (D : Nat) (f : Nat → Int) (H : Nat) (st : List Int) : Prop := ∀ i, i < st.length → f ((H + i) % D) = st.getD i 0
theorem mod_ne {H D i j : Nat} (hij : i < j) (hj : j < D) : (H + i) % D ≠ (H + j) % D := by
  intro e
  have h := Nat.sub_mod_eq_zero_of_mod_eq e.symm
  rw [show H + j - (H + i) = j - i by omega, Nat.mod_eq_of_lt (by omega)] at h
  omega
theorem Hold.push {D H : Nat} {f : Nat → Int} {st : List Int} (h : Hold D f H st) (x : Int) (hD : st.length < D) {T : Nat} (hT : H + st.length = T) : Hold D (updI f (T % D) x) H (st ++ [x]) := by
  subst hT
  intro i hi
  unfold updI
  by_cases e : i = st.length
  · subst e; rw [if_pos rfl, List.getD_eq_getElem?_getD, List.getElem?_append_right (Nat.le_refl _)]; simp
  · have hi2 : i < st.length := by simp at hi; omega
    rw [if_neg (mod_ne hi2 hD), h i hi2, List.getD_eq_getElem?_getD, List.getD_eq_getElem?_getD, List.getElem?_append_left hi2]
theorem Hold.pop {D H : Nat} {f : Nat → Int} {st : List Int} {x : Int} (h : Hold D f H (st ++ [x])) : Hold D f H st ∧ f ((H + st.length) % D) = x := by
  refine ⟨fun i hi => ?_, ?_⟩
  · rw [h i (by simp; omega), List.getD_eq_getElem?_getD, List.getD_eq_getElem?_getD, List.getElem?_append_left hi]
  · rw [h st.length (by simp), List.getD_eq_getElem?_getD, List.getElem?_append_right (Nat.le_refl _)]; simp
theorem Hold.steal {D H : Nat} {f : Nat → Int} {st : List Int} {x : Int} (h : Hold D f H (x :: st)) : Hold D f (H + 1) st ∧ f (H % D) = x := by
  refine ⟨fun i hi => ?_, ?_⟩
  · rw [show H + 1 + i = H + (i + 1) by omega, h (i + 1) (by simp; omega)]
    simp
  · have := h 0 (by simp)
    simpa using this
theorem congrD {P D : Nat} {xs : List Int} {h t k s : Int} {f f' : Nat → Int} (q : Dq P D xs h t k s f) (hf : ∀ i, f i = f' i) : Dq P D xs h t k s f' :=
  ⟨q.hd, q.tl, q.ka, q.sv, fun i hi => (q.sl i hi).trans (hf i), q.ln⟩
theorem last_of (l : List Int) : l = [] ∨ ∃ xs x, l = xs ++ [x] := by
  rcases List.eq_nil_or_concat l with h | ⟨xs, x, h⟩
  · exact .inl h
  · exact .inr ⟨xs, x, by simpa using h⟩
end Go.Proofs.Ytajmmglfdinahaa
