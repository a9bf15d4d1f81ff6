/- A builder of one function, beside a box with an instruction (layer 7: BuildJumps). -/
import Derived.Test.YtdneblbaofhehaaBdL
namespace Go.Proofs.Ytdneblbaofhehaa.bd
open Go.ChangeShapes Go.WideShapes Go.ChangeAt Go.RowKit Go.Maps
open Go.Proofs.Ytdneblbaofhehaa.ro
open Go.Proofs.Ytdneblbaofhehaa.pr
set_option linter.unusedVariables false
set_option linter.unusedSimpArgs false
def JP (w0 : World) (Bb O : Nat) (cs : List I4) (ls : List (Int × ByteArray)) (f : ByteArray → Option Int) (nl : Nat) (w : World) : Prop :=
  ∃ ρ fv F M cv lv, BS w0 w ρ Bb 0 fv [⟨F, M, cv, lv, cs, ls, f, nl⟩] ∧ w.heap[O]? = some (.cells #[.int .i64 21, .int .i64 0, .int .i64 0, .int .i64 0] 33 (0, 0)) ∧ ρ O = 9
section
variable {w0 w w' : World} {Bb O nl : Nat} {cs : List I4} {ls : List (Int × ByteArray)} {f : ByteArray → Option Int}
theorem JP.below (h : JP w0 Bb O cs ls f nl w) (hb : Below w.heap.size w w') : JP w0 Bb O cs ls f nl w' := by
  obtain ⟨ρ, fv, F, M, cv, lv, h1, h2, h3⟩ := h
  have e := (KX.below (fun _ => False) ρ 9 hb).blk h2 h3 (fun h => h)
  exact ⟨_, fv, F, M, cv, lv, h1.below hb, e.1, e.2⟩
theorem JP.bel (h : JP w0 Bb O cs ls f nl w) : Below w0.heap.size w0 w := by
  obtain ⟨ρ, fv, F, M, cv, lv, h1, h2, h3⟩ := h
  exact h1.b
theorem JP.one (h : JP w0 Bb O cs ls f nl w) : w.cell? ⟨O, 0, none⟩ = some (.int .i64 21) ∧ w.cell? ⟨O, 1, none⟩ = some (.int .i64 0) ∧ w.cell? ⟨O, 2, none⟩ = some (.int .i64 0) ∧ w.cell? ⟨O, 3, none⟩ = some (.int .i64 0) ∧ O < w.heap.size := by
  obtain ⟨ρ, fv, F, M, cv, lv, h1, h2, h3⟩ := h
  exact ⟨ro.cel h2 0, ro.cel h2 1, ro.cel h2 2, ro.cel h2 3, ro.lt_of h2⟩
theorem JP.start {ρ : Ro} {fv : Value} {F M : Nat} (h : BS w0 w ρ Bb 0 fv [⟨F, M, .slice none 0 0, .slice none 0 0, [], [], fun _ => none, 0⟩]) : JP w0 Bb w.heap.size [] [] (fun _ => none) 0 (w.alloc (.cells #[.int .i64 21, .int .i64 0, .int .i64 0, .int .i64 0] 33)) :=
  ⟨_, fv, F, M, _, _, h.below (by go_grown), heap_alloc_new _ _, ext_ge ρ 9 (Nat.le_refl _)⟩
theorem j_add (h : JP w0 Bb O cs ls f nl w) (hl : cs.length ≤ 100000) (g c : Nat) (p : I4) (hg : ∀ j u, (enI p)[j]? = some u → w.cell? ((⟨g, 0, none⟩ : Addr).add j) = some u) :
    Calls Try.prog 17 #[.pointer (some ⟨Bb, 0, none⟩), .slice (some ⟨g, 0, none⟩) 1 c] w fun e w' => e = .returned (.int .i64 ((cs.length + 1 : Nat) : Int)) ∧ JP w0 Bb O (cs ++ [p]) ls f nl w' := by
  obtain ⟨ρ, fv, F, M, cv, lv, h1, h2, h3⟩ := h
  refine (add_k (n := 0) h1 rfl rfl (by omega) hl g c p hg).mono ?_
  rintro e w' ⟨rfl, ρ', cv', hB, hK⟩
  have e := hK.blk h2 h3 (by simp [QK])
  exact ⟨rfl, ρ', fv, F, M, cv', lv, hB, e.1, e.2⟩
theorem j_label (h : JP w0 Bb O cs ls f nl w) (hl : cs.length ≤ 100000) (s : ByteArray) (hs : s.size ≤ 1000) (hp : f s = none) (hnl : nl ≤ 100000) :
    Calls Try.prog 18 #[.pointer (some ⟨Bb, 0, none⟩), .string s] w fun e w' => e = .returned (.int .i64 0) ∧ JP w0 Bb O cs ls (fun q => if q = s then some (cs.length : Int) else f q) (nl + 1) w' := by
  obtain ⟨ρ, fv, F, M, cv, lv, h1, h2, h3⟩ := h
  refine (label_k (n := 0) h1 rfl rfl (by omega) hl s hs hp hnl).mono ?_
  rintro e w' ⟨rfl, ρ', hB, hK⟩
  have e := hK.blk h2 h3 (by simp [QK])
  exact ⟨rfl, ρ', fv, F, M, cv, lv, hB, e.1, e.2⟩
theorem j_if (h : JP w0 Bb O cs ls f nl w) (hl : cs.length ≤ 100000) (hll : ls.length ≤ 100000) (s : ByteArray) (r : Int) :
    Calls Try.prog 14 #[.pointer (some ⟨Bb, 0, none⟩), .int .i64 r, .string s] w fun e w' => e = .returned (.tuple #[]) ∧ JP w0 Bb O (cs ++ [(19, r, 0, 0)]) (ls ++ [((cs.length : Int), s)]) f nl w' := by
  obtain ⟨ρ, fv, F, M, cv, lv, h1, h2, h3⟩ := h
  refine (ifzero_of (leap_k (n := 0) h1 rfl rfl (by omega) hl hll s 19 r 0 0)).mono ?_
  rintro e w' ⟨rfl, ρ', cv', lv', hB, hK⟩
  have e := hK.blk h2 h3 (by simp [QK])
  exact ⟨rfl, ρ', fv, F, M, cv', lv', hB, e.1, e.2⟩
/-- what its end is: one function whose instructions lie in memory. -/
theorem j_end {p q : Nat} {a : Int} {s : ByteArray} (h : JP w0 Bb O (cJ p q 0) [((p : Int), s)] f nl w) (hs : s.size ≤ 1000) (hf : f s = some a) (h0 : 0 ≤ a) (h1 : a < p + q + 2) (h2 : p + q + 2 ≤ 200) :
    Calls Try.prog 11 #[.pointer (some ⟨Bb, 0, none⟩)] w fun e w' => ∃ pb po pc b o c, e = .returned (.tuple #[.agg #[.int .i64 0, .slice (some ⟨pb, po, none⟩) 1 pc], .int .i64 0]) ∧ Below w.heap.size w w' ∧ pb < w'.heap.size ∧ b < w'.heap.size ∧ w'.cell? ⟨pb, po, none⟩ = some (.slice (some ⟨b, o, none⟩) (p + q + 2) c) ∧ Hid (RV 4 enI w' (.slice (some ⟨b, o, none⟩) (p + q + 2) c) (cJ p q a)) := by
  obtain ⟨ρ, fv, F, M, cv, lv, hB, _, _⟩ := h
  refine (end_v hB (by simp) (fun j x hx => ?_) (some [cJ p q a]) ?_).mono ?_
  · match j, hx with
    | 0, hx =>
      simp at hx
      subst hx
      refine ⟨by rw [cJ_len]; omega, by simp, fun i l hl => ?_⟩
      match i, hl with
      | 0, hl =>
        simp at hl
        subst hl
        exact ⟨p, rfl, by rw [cJ_len]; omega, hs⟩
      | i + 1, hl => simp at hl
    | j + 1, hx => simp at hx
  · unfold allR
    rw [led_J p q a s f hf]
    rfl
  · rintro e w' ⟨hb, hm⟩
    have hm' : if prE 0 [cJ p q a] = 0 then ∃ v rows, e = .returned (.tuple #[.agg #[.int .i64 0, v], .int .i64 0]) ∧ OP w' (w.heap.size + 1 + 1) v rows [cJ p q a] else e = .returned (.tuple #[.agg #[.int .i64 0, .slice none 0 0], .int .i64 (prE 0 [cJ p q a])]) := hm
    rw [if_pos (cJ_ok p q a h0 h1 h2)] at hm'
    obtain ⟨v, rows, rfl, hp⟩ := hm'
    have hpm := OP.pm hp
    obtain ⟨va, vc, hv, hv2, hv3, hv4⟩ := hpm
    have hv1 : v = .slice va 1 vc := hv
    subst hv1
    obtain ⟨b, o, u, rfl, hbl, hc, hu⟩ := hv4 0 (by simp)
    have hu' : RV 4 enI w' u (cJ p q a) := hu
    obtain ⟨ua, uc, rfl, _⟩ := hu'
    have hc' : w'.cell? ⟨b, o, none⟩ = some (.slice ua (cJ p q a).length uc) := by simpa using hc
    rw [cJ_len] at hc'
    have hu2 : RV 4 enI w' (.slice ua (p + q + 2) uc) (cJ p q a) := by rw [← cJ_len p q a]; exact hu
    obtain ⟨b3, o3, rfl, hbl3, _⟩ := hu2.at 0 _ (cJ_get p q 0 a (by omega))
    exact ⟨b, o, vc, b3, o3, uc, rfl, hb, hbl, hbl3, hc', Lib.hid hu2⟩
end
end Go.Proofs.Ytdneblbaofhehaa.bd
