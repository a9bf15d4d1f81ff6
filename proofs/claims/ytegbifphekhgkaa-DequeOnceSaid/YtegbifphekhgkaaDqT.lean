/- A thief that stands still, wherever in its steal (layer 13). -/
import Derived.Test.YtegbifphekhgkaaDqK
namespace Go.Proofs.Ytegbifphekhgkaa
open Go.ChangeShapes Go.WideShapes Go.ChangeAt Go.RowKit
set_option linter.unusedVariables false
set_option linter.unusedSimpArgs false
/-- A walk's object, whatever the words are. -/
structure WT (w0 w : World) (S g A : Nat) (o : Wk) : Prop where
  a : WAt w A o
  ag : A ≠ g
  aS : A ≠ S
  a0 : w0.heap.size ≤ A
section
variable {w0 w w' : World} {S g Pl D A A' : Nat} {xs xs' : List Int} {o o' : Wk}
theorem WS.wt (h : WS w0 w S g A xs o) : WT w0 w S g A o := ⟨h.a, h.ag, h.aS, h.a0⟩
theorem WT.ws (h : WT w0 w S g A o) (hL : LS w0 w S g Pl D xs) : WS w0 w S g A xs o := ⟨hL.j, h.a, h.ag, h.aS, h.a0⟩
theorem WT.below (h : WT w0 w S g A o) (hb : Below w.heap.size w w') : WT w0 w' S g A o := ⟨h.a.below hb, h.ag, h.aS, h.a0⟩
theorem WT.step (h : WT w0 w S g A o) (hF : Fr g A' w w') (hA : A ≠ A') : WT w0 w' S g A o := ⟨h.a.step hF h.ag hA, h.ag, h.aS, h.a0⟩
theorem congrD {P D : Nat} {xs : List Int} {h t k s : Int} {f f' : Nat → Int} (q : Dq P D xs h t k s f) (hf : ∀ i, f i = f' i) : Dq P D xs h t k s f' :=
  ⟨q.hd, q.tl, q.ka, q.sv, fun i hi => (q.sl i hi).trans (hf i), q.ln⟩
theorem congrK {P D : Nat} {xs : List Int} {h t k k' s : Int} {f : Nat → Int} (q : Dq P D xs h t k s f) (hk : k = k') : Dq P D xs h t k' s f := hk ▸ q
end
/-- The thief behind s of its seven steps. -/
def thO (A : Nat) : Nat → Wk
  | 0 => ⟨40, 1, 0, 0, 0, 0, 0, 0, false, false, fnV A 53⟩
  | 1 => ⟨40, 1, 0, 0, 0, ((44 + 2 : Nat) : Int), 0, 0, false, false, fnV A 80⟩
  | 2 => ⟨40, 1, 0, 0, 0, ((44 + 2 : Nat) : Int), 0, 0, false, false, fnV A 101⟩
  | 3 => ⟨40, 1, 0, 0, 0, ((44 + 2 : Nat) : Int), 0, 0, false, false, fnV A 113⟩
  | 4 => ⟨40, 1, 0, 0, 0, ((44 + 2 : Nat) : Int), 0, 0, false, false, fnV A 116⟩
  | 5 => ⟨40, 1, 0, 0, 0, ((44 + 2 : Nat) : Int), 0, 0, false, false, fnV A 119⟩
  | _ => ⟨40, 1, 0, 0, 0, ((44 + 2 : Nat) : Int), 0, 100, true, false, fnV A 121⟩
def thH (s : Nat) : Int := if s < 4 then 0 else 1
def thK (s : Nat) : Int := if s = 0 then 0 else 1
theorem thO_nx (A s : Nat) : ∃ f, (thO A s).nx = fnV A f := by
  unfold thO; split <;> exact ⟨_, rfl⟩
theorem thH_le (s : Nat) : 0 ≤ thH s ∧ thH s ≤ 1 := by unfold thH; split <;> omega
theorem th_step (S g A s : Nat) (xs : List Int) (T : Int) (f : Nat → Int) (hs : s < 6) (hl : xs.length = 98) (hT : 0 < T) (hf : f 0 = 100) (q : Dq 44 40 xs (thH s) T (thK s) 0 f) :
    ∃ xs', StepC S g A xs (thO A s) xs' (thO A (s + 1)) ∧ Dq 44 40 xs' (thH (s + 1)) T (thK (s + 1)) 0 f ∧ xs'.length = 98 := by
  have hO := wok 40 1 44 98 (by omega) (by omega) (by omega) (by omega) (by omega)
  rw [← hl] at hO
  match s, hs with
  | 0, _ => exact ⟨_, s_stealAsk S g A 44 xs _ 0 (hO _ rfl rfl) (Lib.hid q.ka) rfl, congrK (q.set2 (wrap64 (0 + 1))) (by unfold wrap64 thK; rw [if_neg (by omega)]; omega), by simpa using hl⟩
  | 1, _ => exact ⟨_, s_stealWait S g A 44 xs (thO A 1) (hO _ rfl rfl) rfl (Lib.hid q.sv) rfl, q, hl⟩
  | 2, _ => exact ⟨_, s_stealLook S g A 44 xs (thO A 2) 0 (hO _ rfl rfl) (Lib.hid q.hd) rfl, q, hl⟩
  | 3, _ => exact ⟨_, s_stealClaim S g A 44 xs (thO A 3) 1 (hO _ rfl rfl) (show (-1000000 : Int) ≤ 0 by omega) (show (0 : Int) ≤ 1000000 by omega) (Lib.hid rfl) rfl, q.set0 1, by simpa using hl⟩
  | 4, _ => exact ⟨_, s_stealCheck_no S g A 44 xs (thO A 4) T (hO _ rfl rfl) (show (-1000000 : Int) ≤ 0 by omega) (show (0 : Int) ≤ 1000000 by omega) (Lib.hid q.tl) (show ¬ T ≤ 0 by omega) rfl, q, hl⟩
  | 5, _ => exact ⟨_, s_stealTake S g A 44 xs (thO A 5) 0 100 (hO _ rfl rfl) (show (0 : Int) ≤ 0 by omega) (Lib.hid rfl) (show 0 < 40 by omega) (Lib.hid (by rw [q.sl 0 (by omega), hf])) rfl, q, hl⟩
theorem th_run (S g A : Nat) (T : Int) (f : Nat → Int) (hT : 0 < T) (hf : f 0 = 100) : ∀ (n s : Nat) (xs : List Int), s + n = 6 → xs.length = 98 → Dq 44 40 xs (thH s) T (thK s) 0 f →
    ∃ xs' o', RunC S g A (n + 1) xs (thO A s) xs' o' ∧ o'.gt = 100 ∧ o'.hs = true ∧ o'.nx = .nilFunc
  | 0, s, xs, hs, hl, q => by
    obtain rfl : s = 6 := by omega
    have hO := wok 40 1 44 98 (by omega) (by omega) (by omega) (by omega) (by omega)
    rw [← hl] at hO
    exact ⟨_, _, .one (s_stealLeave S g A 44 xs (thO A 6) (wrap64 (0 + 1)) (hO _ rfl rfl) rfl (Lib.hid rfl) rfl) rfl, rfl, rfl, rfl⟩
  | n + 1, s, xs, hs, hl, q => by
    obtain ⟨xs1, hC, q1, hl1⟩ := th_step S g A s xs T f (by omega) hl hT hf q
    obtain ⟨xs2, o2, hR, h1, h2, h3⟩ := th_run S g A T f hT hf n (s + 1) xs1 (by omega) hl1 q1
    exact ⟨xs2, o2, .more hC (thO_nx A (s + 1)) hR, h1, h2, h3⟩
end Go.Proofs.Ytegbifphekhgkaa
