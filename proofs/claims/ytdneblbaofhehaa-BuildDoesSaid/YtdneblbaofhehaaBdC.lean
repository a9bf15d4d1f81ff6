/- What the builder's calls do: Add, Label (layer 7). -/
import Derived.Test.YtdneblbaofhehaaBdB
import Derived.RegionTactic
import Derived.ChangeAlike
import Derived.StillTailTactics
import Derived.Deep.RegionLaw
namespace Go.Proofs.Ytdneblbaofhehaa.bd
open Go.ChangeShapes Go.WideShapes Go.ChangeAt Go.RowKit Go.Maps
open Go.Proofs.Ytdneblbaofhehaa.ro
open Go.Proofs.Ytdneblbaofhehaa.pr
attribute [local go_sem ↓] Go.wp_at_zero Go.wp_at_succ
set_option linter.unusedVariables false
set_option linter.unusedSimpArgs false
theorem rec_new {α : Type} {en : α → List Value} {w : World} {cs : Array Value} {e g : Nat} (hg : w.heap.size = g) {p : α} (hp : cs.toList = en p) : ∀ j u, (en p)[j]? = some u → (w.alloc (.cells cs e)).cell? ((⟨g, 0, none⟩ : Addr).add j) = some u := by
  intro j u hu
  subst hg
  rw [← hp] at hu
  have h2 : cs[j]? = some u := by simpa using hu
  have := heap_new w (.cells cs e)
  rw [Go.WideShapes.add_plain, Nat.zero_add]
  simp only [World.cell?]
  rw [this]
  exact h2
theorem step_appR {α : Type} {k : Nat} {en : α → List Value} {ops : Array Oper} {o : Oper} {a : Act} {w : World} {K : Act → World → Prop} {Q : Exit → Act → World → Prop} {E : Prop} (hgd : o.guard = none) (s x : Operand) (t e : TypeId) (z : Value) (bytes : Nat)
    (ho : o.op = .call { callee := .builtin .append, args := #[s, x], argTypes := #[t, t] }) (ht : Try.prog.underlying t = some (.slice e)) (hinfo : (Try.prog.info? e).map (fun i => (i.zero, i.size, i.bytes)) = some (some z, k, bytes)) (hzs : z.cells.size = k) (hby : bytes ≤ 1000) (hr : Rec k en)
    (v : Value) (xs : List α) (p : α) (hs : a.eval s = v) (g c : Nat) (hx : a.eval x = .slice (some ⟨g, 0, none⟩) 1 c) (hown : OR k en w 0 e v xs) (hu : ∀ j u, (en p)[j]? = some u → w.cell? ((⟨g, 0, none⟩ : Addr).add j) = some u) (hsm : xs.length ≤ 1000000)
    (h : ∀ va vn vc w', Hid (OR k en w' 0 e (.slice va vn vc) (xs ++ [p])) → w.grownBy w' v.ownBlock → Hid ((Value.slice va vn vc).ownBlock = v.ownBlock ∨ (Value.slice va vn vc).ownBlock = some w.heap.size) → K (a.put o.dst (.slice va vn vc)) w') :
    if Region.wanted o (yielded ops a.tmps) = true then Oper.wp Try.prog o a w K Q else E := by
  have hw : Region.wanted o (yielded ops a.tmps) = true := by simp [Region.wanted, hgd]
  rw [if_pos hw]
  obtain ⟨i0, hi, hz0, hz1, hz2⟩ := info_parts hinfo
  have hb1 : (xs.length + 1) * bytes ≤ 140737488355328 := by
    have := Nat.mul_le_mul (show xs.length + 1 ≤ 1000001 by omega) hby
    omega
  obtain ⟨v', w', r1, r2, r3, _, r5⟩ := run_append_own_at (P := Try.prog) w 0 t o.type e i0 z k bytes ht hi hz0 hz1 hz2 hzs hr.1 v xs.length _ hown ⟨g, 0, none⟩ 1 c (en p) (by rw [hr.2.1]; omega) hu (hr.2.2 p) (by unfold maxLen; omega) hb1 (Nat.zero_le _)
  have r2' : OR k en w' 0 e v' (xs ++ [p]) := by unfold OR; rw [flat_snoc, List.length_append]; exact r2
  obtain ⟨va, vc, hvv⟩ := OR.form r2'
  obtain ⟨vn, hvn⟩ : ∃ vn, (xs ++ [p]).length = vn := ⟨_, rfl⟩
  rw [hvn] at hvv
  subst hvv
  unfold Oper.wp execOp
  simp only [ho, resolve, invoke, builtin, Sem.run_bind, Sem.run_pure, Result.andThen_ok, List.map_toArray, List.map_cons, List.map_nil, hs, hx, r1]
  exact h va vn vc w' (Lib.hid r2') r3 (Lib.hid r5)
theorem below_drewN (w : World) (n : Nat) : Below w.heap.size w (w.drewN n) := ⟨rfl, rfl, rfl, Nat.le_refl _, fun _ _ => rfl⟩
section
variable {w0 w : World} {ρ : Ro} {Bb : Nat} {mem : Int} {fv : Value} {fs : List Fn} {n : Nat} {x : Fn}
set_option maxRecDepth 20000 in
theorem add_v (h : BS w0 w ρ Bb mem fv fs) (hn : fs.length = n + 1) (hx : fs[n]? = some x) (hk : n ≤ 1000) (hl : x.cs.length ≤ 100000) (g c : Nat) (p : I4) (hg : ∀ j u, (enI p)[j]? = some u → w.cell? ((⟨g, 0, none⟩ : Addr).add j) = some u) :
    Calls Try.prog 17 #[.pointer (some ⟨Bb, 0, none⟩), .slice (some ⟨g, 0, none⟩) 1 c] w fun e w' => e = .returned (.int .i64 ((x.cs.length + 1 : Nat) : Int)) ∧ ∃ ρ' cv', BS w0 w' ρ' Bb mem fv (fs.set n { x with cv := cv', cs := x.cs ++ [p] }) := by
  have HL := Lib.hid (last_v h hn hx hk)
  have hF := h.fn n x hx
  obtain ⟨a, cp, hcv⟩ := OR.form hF.c.o
  obtain ⟨k, hkk⟩ : ∃ k, x.cs.length = k := ⟨_, rfl⟩
  rw [hkk] at hcv hl ⊢
  have c0 : w.cell? ⟨x.F, 0, none⟩ = some (.slice a k cp) := by rw [← hcv]; exact ro.cel hF.o 0
  have HF : Hid (x.F < w.heap.size) := Lib.hid hF.lt
  have H := Lib.hid h
  have HX := Lib.hid hx
  have HG := Lib.hid hg
  have HV := Lib.hid hcv
  have HKK := Lib.hid hkk
  clear h hn hx hF hcv hg hkk
  go_enter Try.func17, Try.ntmps17
  go_wp2_with (first | (go_at_call 24; (with_reducible refine HL.out.mono ?_); rintro _ _ ⟨rfl, m, rfl⟩) | (at_builtin; refine wpList_appR (en := enI) rfl _ _ 50 33 _ 32 rfl Try.underlying50 infoI rfl (by decide) recI 0 _ x.cs HV.out.symm ⟨g, 0, none⟩ c rfl p (OR.below (H.out.fn n x HX.out).c.o (by exact below_drewN _ _)) (fun j u hu => HG.out j u hu) (by rw [HKK.out]; omega) (Nat.zero_le _) ?_))
  intro v' w1 ho hg1 hor
  have h2 := H.out.below (below_drewN w m)
  have hF2 := h2.fn n x HX.out
  obtain ⟨g1, g2⟩ := hF2.c.grown hg1 ho hor
  have b1 := g2.blk hF2.o hF2.ro (by omega)
  have c1 : w1.cell? ⟨x.F, 0, none⟩ = some x.cv := ro.cel b1.1 0
  have f1 : w1.frozen? ⟨x.F, 0, none⟩ = false := ro.frz b1.1 0
  rw [HV.out] at c1
  obtain ⟨va, vc, hv⟩ := OR.form ho
  have hv1 : v' = .slice va (k + 1) vc := by rw [hv, List.length_append, HKK.out]; rfl
  subst hv1
  have HB := Lib.hid (h2.code HX.out (W := w1) (v' := .slice va (k + 1) vc) (cs' := x.cs ++ [p]) hg1 ho hor)
  clear h2 hF2 g1 g2 b1 hv ho hg1 hor c0
  go_wp2_with fail
  go_ret
  exact ⟨rfl, _, _, HB.out⟩
theorem add_none (h : BS w0 w ρ Bb mem fv []) (v : Value) : Calls Try.prog 17 #[.pointer (some ⟨Bb, 0, none⟩), v] w fun e w' => e = .returned (.int .i64 (-1)) ∧ w' = w := by
  have HL := Lib.hid (last_none h)
  clear h
  go_enter Try.func17, Try.ntmps17
  go_wp2_with (go_at_call 24; (with_reducible refine HL.out.mono ?_); rintro _ _ ⟨rfl, rfl⟩)
  go_ret
  exact ⟨rfl, rfl⟩
theorem add_nil (v : Value) : Calls Try.prog 17 #[.pointer none, v] w fun e w' => e = .returned (.int .i64 (-1)) ∧ w' = w := by
  have HL := Lib.hid (last_nil w)
  go_enter Try.func17, Try.ntmps17
  go_wp2_with (go_at_call 24; (with_reducible refine HL.out.mono ?_); rintro _ _ ⟨rfl, rfl⟩)
  go_ret
  exact ⟨rfl, rfl⟩
end
end Go.Proofs.Ytdneblbaofhehaa.bd
