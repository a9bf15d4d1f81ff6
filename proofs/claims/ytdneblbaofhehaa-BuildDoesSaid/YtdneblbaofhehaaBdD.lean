/- What the builder's calls do: Label (layer 7). -/
import Derived.Test.YtdneblbaofhehaaBdC
namespace Go.Proofs.Ytdneblbaofhehaa.bd
open Go.ChangeShapes Go.WideShapes Go.ChangeAt Go.RowKit Go.Maps
open Go.Proofs.Ytdneblbaofhehaa.ro
open Go.Proofs.Ytdneblbaofhehaa.pr
attribute [local go_sem ↓] Go.wp_at_zero Go.wp_at_succ
set_option linter.unusedVariables false
set_option linter.unusedSimpArgs false
section
variable {w0 w : World} {ρ : Ro} {Bb : Nat} {mem : Int} {fv : Value} {fs : List Fn} {n : Nat} {x : Fn}
set_option maxRecDepth 20000 in
theorem label_twice (h : BS w0 w ρ Bb mem fv fs) (hn : fs.length = n + 1) (hx : fs[n]? = some x) (hk : n ≤ 1000) (s : ByteArray) (hs : s.size ≤ 1000) {p : Int} (hp : x.f s = some p) :
    Calls Try.prog 18 #[.pointer (some ⟨Bb, 0, none⟩), .string s] w fun e w' => e = .returned (.int .i64 10) ∧ ∃ m, w' = w.drewN m := by
  have HL := Lib.hid (last_v h hn hx hk)
  have hF := h.fn n x hx
  obtain ⟨D, hm, hD⟩ := hF.m
  have hh : Maps.has D (kl s) = true := by rw [(hD.2 s).1, hp]; rfl
  have c1 : w.cell? ⟨x.F, 1, none⟩ = some (.map (some x.M)) := ro.cel hF.o 1
  have HM := Lib.hid hm
  have hkey : keyOf Try.prog 9 (.string s) = some (kl s) := WideMaps.keyOf_string_mk Try.underlying9 (by unfold maxLen; omega)
  clear h hn hx hF hm hD hp
  go_enter Try.func18, Try.ntmps18
  go_wp2_with (first | (go_at_call 24; (with_reducible refine HL.out.mono ?_); rintro _ _ ⟨rfl, m, rfl⟩) | (at_lookup; refine wpList_lookup_own_ok_int _ rfl _ _ 64 rfl 9 3 .i64 law Try.underlying64 Try.underlying3 (zeroI _) x.M x.nl D rfl (ownsMap_blk HM.out rfl) _ (kl s) rfl hkey ?_; intro c hc hwc; rw [hh]))
  go_ret
  exact ⟨rfl, _, rfl⟩
set_option maxRecDepth 20000 in
theorem label_v (h : BS w0 w ρ Bb mem fv fs) (hn : fs.length = n + 1) (hx : fs[n]? = some x) (hk : n ≤ 1000) (hl : x.cs.length ≤ 100000) (s : ByteArray) (hs : s.size ≤ 1000) (hp : x.f s = none) (hnl : x.nl ≤ 100000) :
    Calls Try.prog 18 #[.pointer (some ⟨Bb, 0, none⟩), .string s] w fun e w' => e = .returned (.int .i64 0) ∧ ∃ ρ', BS w0 w' ρ' Bb mem fv (fs.set n { x with f := (fun q => if q = s then some (x.cs.length : Int) else x.f q), nl := x.nl + 1 }) := by
  have HL := Lib.hid (last_v h hn hx hk)
  have hF := h.fn n x hx
  obtain ⟨D, hm, hD⟩ := hF.m
  have hh : Maps.has D (kl s) = false := by rw [(hD.2 s).1, hp]; rfl
  obtain ⟨a, cp, hcv⟩ := OR.form hF.c.o
  obtain ⟨k, hkk⟩ : ∃ k, x.cs.length = k := ⟨_, rfl⟩
  rw [hkk] at hcv hl ⊢
  have c0 : w.cell? ⟨x.F, 0, none⟩ = some (.slice a k cp) := by rw [← hcv]; exact ro.cel hF.o 0
  have c1 : w.cell? ⟨x.F, 1, none⟩ = some (.map (some x.M)) := ro.cel hF.o 1
  have HM := Lib.hid hm
  have HD := Lib.hid hD
  have H := Lib.hid h
  have HX := Lib.hid hx
  have HN := Lib.hid (show x.nl < maxLen by unfold maxLen; omega)
  have hkey : keyOf Try.prog 9 (.string s) = some (kl s) := WideMaps.keyOf_string_mk Try.underlying9 (by unfold maxLen; omega)
  clear h hn hx hF hm hD hp hnl hcv hkk
  go_enter Try.func18, Try.ntmps18
  go_wp2_with (first | (go_at_call 24; (with_reducible refine HL.out.mono ?_); rintro _ _ ⟨rfl, m, rfl⟩) | (at_lookup; refine wpList_lookup_own_ok_int _ rfl _ _ 64 rfl 9 3 .i64 law Try.underlying64 Try.underlying3 (zeroI _) x.M x.nl D rfl (ownsMap_blk HM.out rfl) _ (kl s) rfl hkey ?_; intro c hc hwc; rw [hh]))
  obtain ⟨W, hW⟩ : ∃ W, w.drewN m = W := ⟨_, rfl⟩
  rw [hW]
  obtain ⟨w2, hup, hm2, hg2⟩ := World.ownsMap.update (w := W.drew) (ownsMap_blk HM.out (by rw [← hW]; rfl)) law Try.underlying64 HN.out (val := .int .i64 (k : Int)) hkey (plainElem_int Try.underlying3 (WalkArith.wf_i64 (by omega)))
  have d0 : W.cell? ⟨x.F, 0, none⟩ = some (.slice a k cp) := by rw [← hW]; exact c0
  have d1 : W.cell? ⟨x.F, 1, none⟩ = some (.map (some x.M)) := by rw [← hW]; exact c1
  have hb : Below w.heap.size w W := by rw [← hW]; exact below_drewN w m
  have h2 := H.out.below hb
  have h3 := h2.below (w' := W.drew) (below_drewN W 1)
  have HB := Lib.hid (h3.label HX.out hg2 hm2 (HD.out.put s k))
  clear h2 h3 hm2 hg2 hb c0 c1 hc hwc
  go_region
  all_goals
    go_wp2_with fail
    go_ret
    exact ⟨rfl, _, HB.out⟩
theorem label_none (h : BS w0 w ρ Bb mem fv []) (s : ByteArray) : Calls Try.prog 18 #[.pointer (some ⟨Bb, 0, none⟩), .string s] w fun e w' => e = .returned (.int .i64 8) ∧ w' = w := by
  have HL := Lib.hid (last_none h)
  clear h
  go_enter Try.func18, Try.ntmps18
  go_wp2_with (go_at_call 24; (with_reducible refine HL.out.mono ?_); rintro _ _ ⟨rfl, rfl⟩)
  go_ret
  exact ⟨rfl, rfl⟩
theorem label_nil (s : ByteArray) : Calls Try.prog 18 #[.pointer none, .string s] w fun e w' => e = .returned (.int .i64 8) ∧ w' = w := by
  have HL := Lib.hid (last_nil w)
  go_enter Try.func18, Try.ntmps18
  go_wp2_with (go_at_call 24; (with_reducible refine HL.out.mono ?_); rintro _ _ ⟨rfl, rfl⟩)
  go_ret
  exact ⟨rfl, rfl⟩
end
end Go.Proofs.Ytdneblbaofhehaa.bd
