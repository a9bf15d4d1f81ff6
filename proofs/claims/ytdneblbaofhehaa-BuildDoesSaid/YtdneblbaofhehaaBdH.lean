/- The function's instructions with their targets (layer 7): led. -/
import Derived.Test.YtdneblbaofhehaaBdG
namespace Go.Proofs.Ytdneblbaofhehaa.bd
open Go.ChangeShapes Go.WideShapes Go.ChangeAt Go.RowKit Go.Maps
open Go.Proofs.Ytdneblbaofhehaa.ro
open Go.Proofs.Ytdneblbaofhehaa.pr
open Go.Proofs.Ytdneblbaofhehaa.ins (kb tr3)
attribute [local go_sem ↓] Go.wp_at_zero Go.wp_at_succ
set_option linter.unusedVariables false
set_option linter.unusedSimpArgs false
theorem look_v {w W : World} {ρ : Ro} {j : Nat} {x : Fn} (h : FnAt w ρ j x) (hb : Below w.heap.size w W) (s : ByteArray) (hs : s.size ≤ 1000) :
    ∃ c, (Instr.lookup 64 (.map (some x.M)) (.string s) true).run Try.prog W = .ok (.tuple #[.int .i64 c, .bool (x.f s).isSome]) W ∧ ∀ p, x.f s = some p → c = p := by
  obtain ⟨D, hm, hD⟩ := h.m
  have hm' := ownsMap_blk hm (hb.block x.M hm.lt)
  have hkey : keyOf Try.prog 9 (.string s) = some (kl s) := WideMaps.keyOf_string_mk Try.underlying9 (by unfold maxLen; omega)
  obtain ⟨v, ps, hrun, hv⟩ := hm'.look_ok law Try.underlying64 (zeroI W) (plainElem_int Try.underlying3 (WalkArith.wf_i64 (by omega))) hkey
  obtain ⟨c, rfl, hc, _⟩ := plainElem_int_inv Try.underlying3 hv
  rw [(hD.2 s).1] at hrun
  refine ⟨c, hrun, fun p hp => ?_⟩
  have h2 := (hD.2 s).2 p hp
  have h3 := congrArg Prod.fst hc
  dsimp only at h3
  rw [h2] at h3
  simp at h3
  exact h3.symm
theorem OR.hb {α : Type} {k : Nat} {en : α → List Value} {w : World} {B e n c : Nat} {a : Option Addr} {xs : List α} (h : OR k en w B e (.slice a n c) xs) (hne : xs.length ≠ 0) : ∃ g cur, a = some ⟨g, 0, none⟩ ∧ B ≤ g ∧ n = xs.length ∧ w.heap[g]? = some (.cells cur e (0, 0)) := by
  obtain ⟨hl, ⟨_, h0⟩ | ⟨g, cap, cur, h0, hg, hh, _⟩⟩ := h
  · exact absurd h0 hne
  · simp only [Value.slice.injEq] at h0
    exact ⟨g, cur, h0.1, hg, h0.2.1, hh⟩
def LedP (w : World) (R : Option (List I4)) (e : Ending) (w' : World) : Prop := Below w.heap.size w w' ∧ match R with
  | none => e = .returned (.tuple #[.slice none 0 0, .int .i64 7])
  | some c => ∃ v, e = .returned (.tuple #[v, .int .i64 0]) ∧ OR 4 enI w' w.heap.size 33 v c
set_option maxRecDepth 20000 in
set_option maxHeartbeats 2000000 in
theorem led_v {w : World} {ρ : Ro} {j : Nat} {x : Fn} (h : FnAt w ρ j x) (hl : x.cs.length ≤ 100000) (hll : x.ls.length ≤ 100000) (hA : ∀ (i : Nat) (l : Int × ByteArray), x.ls[i]? = some l → ∃ a : Nat, l.1 = (a : Int) ∧ a < x.cs.length ∧ l.2.size ≤ 1000) (R : Option (List I4)) (hR : ledR x.f x.ls x.cs = R) :
    Calls Try.prog 19 #[.pointer (some ⟨x.F, 0, none⟩)] w (LedP w R) := by
  have HC := Lib.hid (cloneI x.cv x.cs w (OR.rv recI h.c.o) (by omega))
  obtain ⟨la, lc, hlv⟩ := OR.form h.l.o
  have HLV : Hid (RV 2 enL w (.slice la x.ls.length lc) x.ls) := Lib.hid (by rw [← hlv]; exact OR.rv recL h.l.o)
  have c0 : w.cell? ⟨x.F, 0, none⟩ = some x.cv := ro.cel h.o 0
  have HFO : Hid (w.heap[x.F]? = some (.cells #[x.cv, .map (some x.M), .slice la x.ls.length lc] 67 (0, 0))) := Lib.hid (by rw [← hlv]; exact h.o)
  have HLK := Lib.hid (fun W (hb : Below w.heap.size w W) s hs => look_v h hb s hs)
  have HA := Lib.hid hA
  have HR := Lib.hid hR
  obtain ⟨n, hn⟩ : ∃ n, x.ls.length = n := ⟨_, rfl⟩
  rw [hn] at HLV HFO hll
  have HN := Lib.hid hn
  have HL := Lib.hid hl
  clear h hlv hA hR hn hl
  go_enter Try.func19, Try.ntmps19
  go_wp2_with fail
  refine HC.out.mono ?_
  rintro e w1 ⟨vc, rfl, ho, hb⟩
  have o1 := kb HFO.out hb
  have c2 : w1.cell? ⟨x.F, 2, none⟩ = some (.slice la n lc) := ro.cel o1 2
  obtain ⟨va, vm, vcap, rfl⟩ : ∃ va vm vcap, vc = .slice va vm vcap := by
    obtain ⟨a, c, e⟩ := OR.form ho
    exact ⟨a, _, c, e⟩
  have HO := Lib.hid (And.intro hb ho)
  clear o1 c0 hb ho
  go_wp2_with fail
  go_loopw [20] (fun i wr => ∃ k : Nat, i = .int .i64 (k : Int) ∧ k ≤ n ∧ Hid (∃ c, ledR x.f (x.ls.drop k) c = R ∧ c.length = x.cs.length ∧ Below w.heap.size w wr ∧ OR 4 enI wr w.heap.size 33 (.slice va vm vcap) c)) (fun i _ => n - (intOf i).toNat)
  case atStart => exact ⟨0, rfl, by omega, Lib.hid ⟨x.cs, by rw [List.drop_zero]; exact HR.out, rfl, HO.out.1, HO.out.2⟩⟩
  case round =>
    clear c2
    obtain ⟨k, rfl, hk, HI⟩ := hrel
    by_cases hlt : k < n
    · have hk2 : k < x.ls.length := by have := HN.out; omega
      obtain ⟨⟨lp, ls⟩, hlx⟩ : ∃ l, x.ls[k]? = some l := ⟨_, List.getElem?_eq_getElem hk2⟩
      obtain ⟨a, rfl, ha, hsz⟩ := HA.out k _ hlx
      obtain ⟨c, hi1, hi2, hi3, hi4⟩ := HI.out
      obtain ⟨b, o, rfl, hbl, hcl⟩ := (HLV.out.below hi3).at k _ hlx
      have l0 : wr.cell? ⟨b, o + k * 2, none⟩ = some (.int .i64 (a : Int)) := hcl 0 _ rfl
      have l1 : wr.cell? ⟨b, o + k * 2 + 1, none⟩ = some (.string ls) := hcl 1 _ rfl
      obtain ⟨W2, hW2⟩ : ∃ W2, wr.alloc (.cells #[.int .i64 (a : Int), .string ls] 72) = W2 := ⟨_, rfl⟩
      have hb2 : Below wr.heap.size wr W2 := by rw [← hW2]; go_grown
      have hX2 : W2.heap[wr.heap.size]? = some (.cells #[.int .i64 (a : Int), .string ls] 72 (0, 0)) := by rw [← hW2]; exact heap_new _ _
      have x0 : W2.cell? ⟨wr.heap.size, 0, none⟩ = some (.int .i64 (a : Int)) := ro.cel hX2 0
      have x1 : W2.cell? ⟨wr.heap.size, 1, none⟩ = some (.string ls) := ro.cel hX2 1
      have hB2 : Below w.heap.size w W2 := tr3 hi3 hb2
      have f1 : W2.cell? ⟨x.F, 1, none⟩ = some (.map (some x.M)) := ro.cel (kb HFO.out hB2) 1
      have n1 : x.F < W2.heap.size := ro.lt_of (kb HFO.out hB2)
      have n2 : wr.heap.size < W2.heap.size := ro.lt_of hX2
      obtain ⟨lv, hlk, hlp⟩ := HLK.out W2.drew (tr3 hB2 (below_drewN W2 1)) ls hsz
      have hd : x.ls.drop k = ((a : Int), ls) :: x.ls.drop (k + 1) := by
        rw [List.drop_eq_getElem_cons hk2]
        congr 1
        rw [List.getElem?_eq_getElem hk2] at hlx
        exact Option.some.inj hlx
      rw [hd, ledR] at hi1
      dsimp only at hi1
      have hplI : (k : Int) < (n : Int) := by omega
      have HB2 := Lib.hid hB2
      have HLP := Lib.hid hlp
      have HI4 : Hid (OR 4 enI W2 w.heap.size 33 (.slice va vm vcap) c) := Lib.hid (hi4.below hb2)
      have HI2 := Lib.hid hi2
      have HAA := Lib.hid ha
      cases hp : x.f ls with
      | none =>
        rw [hp] at hi1 hlk
        dsimp only [Option.isSome] at hlk
        have HRN : Hid (R = none) := Lib.hid hi1.symm
        clear hi1 hi2 hi3 hi4 hcl hX2 hb2 hB2 hlp hlx hd HI hp
        go_wp2_with fail
        go_region
        all_goals
          go_wp2_with fail
          go_ret2
          refine ⟨tr3 HB2.out (below_drewN W2 1), ?_⟩
          rw [HRN.out]
          first | done | rfl
      | some p =>
        rw [hp] at hi1 hlk
        dsimp only [Option.isSome] at hlk
        obtain rfl : lv = p := hlp p hp
        obtain ⟨g, cur, rfl, hg1, rfl, hgb⟩ := OR.hb HI4.out (by have := HI2.out; omega)
        obtain ⟨b2, o2, e2, _, q0, q1, q2, _⟩ := RV.four (OR.rv recI HI4.out) a (by omega)
        simp only [Option.some.injEq, Addr.mk.injEq, and_true] at e2
        obtain ⟨rfl, rfl⟩ := e2
        simp only [Nat.zero_add] at q0 q1 q2
        have z1 : W2.frozen? ⟨g, a * 4 + 1, none⟩ = false := ro.frz hgb _
        have z2 : W2.frozen? ⟨g, a * 4 + 2, none⟩ = false := ro.frz hgb _
        have n3 : g < W2.heap.size := ro.lt_of hgb
        rw [Int.toNat_natCast] at hi1
        have hxq : c[a]? = some (c.getD a d4) := getD_L (by omega)
        obtain ⟨⟨p0, p1, p2, p3⟩, hq⟩ : ∃ q, c.getD a d4 = q := ⟨_, rfl⟩
        rw [hq] at q0 q1 q2 hxq
        have HP : Hid (∀ j u, j < 4 → enI (fillI (p0, p1, p2, p3) lv) = (enI (p0, p1, p2, p3)).set j u → ∃ c', ledR x.f (x.ls.drop (k + 1)) c' = R ∧ c'.length = x.cs.length ∧ Below w.heap.size w (W2.drew.setCell ⟨g, a * 4 + j, none⟩ u) ∧ OR 4 enI (W2.drew.setCell ⟨g, a * 4 + j, none⟩ u) w.heap.size 33 (.slice (some ⟨g, 0, none⟩) c.length vcap) c') := Lib.hid fun j u hj hu => by
          refine ⟨_, hi1, by unfold fill1; rw [List.length_set]; exact HI2.out, Below.setCell (tr3 HB2.out (below_drewN W2 1)) hg1 _, ?_⟩
          unfold fill1
          rw [hq]
          exact OR.put recI (OR.below HI4.out (below_drewN W2 1)) hxq hj hu
        have ham : a < c.length := by omega
        have haI : (a : Int) < (c.length : Int) := by omega
        obtain ⟨m, hm⟩ : ∃ m, c.length = m := ⟨_, rfl⟩
        rw [hm] at HP HI4 ham haI ⊢
        clear hi1 hi2 hi3 hi4 hcl hX2 hb2 hB2 hlp hlx hd HI hp hgb hxq hq hm HI4 HLP HC
        by_cases h18 : p0 = 18
        · have hb18 : (p0 == 18) = true := by rw [h18]; rfl
          have HF := Lib.hid (HP.out 1 (.int .i64 lv) (by omega) (by unfold fillI; rw [if_pos h18]; rfl))
          clear HP h18
          go_wp2_with fail
          go_region
          all_goals
            go_wp2_with fail
            go_roundw
            case rel => exact ⟨k + 1, by go_num, by omega, HF⟩
            case measure => simp [intOf]; omega
        · have hb18 : (p0 == 18) = false := by rw [beq_eq_false_iff_ne]; exact h18
          have HF := Lib.hid (HP.out 2 (.int .i64 lv) (by omega) (by unfold fillI; rw [if_neg h18]; rfl))
          clear HP h18
          go_wp2_with fail
          go_region
          all_goals
            go_wp2_with fail
            go_roundw
            case rel => exact ⟨k + 1, by go_num, by omega, HF⟩
            case measure => simp [intOf]; omega
    · obtain rfl : k = n := by omega
      obtain ⟨c, hi1, hi2, hi3, hi4⟩ := HI.out
      rw [← HN.out, List.drop_length] at hi1
      have HRN : Hid (R = some c) := Lib.hid hi1.symm
      have HF := Lib.hid (And.intro hi3 hi4)
      clear hi1 hi2 hi3 hi4 HI
      go_wp2_with fail
      go_ret2
      refine ⟨HF.out.1, ?_⟩
      rw [HRN.out]
      exact ⟨_, rfl, HF.out.2⟩
end Go.Proofs.Ytdneblbaofhehaa.bd
