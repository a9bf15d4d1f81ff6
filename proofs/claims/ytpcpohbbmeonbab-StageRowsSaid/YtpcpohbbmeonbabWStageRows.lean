/- Of any cells as many of the first ones are below a counter as the chapter says: the law StageRows answers true. No condition. -/
import Derived.Test.YtpcpohbbmeonbabPairs
import Derived.Test.YtpcpohbbmeonbabMix
import Derived.Outline
namespace Go.Proofs.Ytpcpohbbmeonbab.stageRows
open Go.ChangeShapes Go.WideShapes Go.ChangeAt Go.RowKit
set_option linter.unusedVariables false
set_option linter.unusedSimpArgs false
theorem big (a0 : Option Addr) (len0 cap0 : Nat) (a1 : Int) (a2 : Option Addr) (len2 cap2 : Nat) (w : World) (h : 300 < len0 ∨ 300 < len2) :
    Calls Try.prog 5 #[.slice a0 len0 cap0, .int .i64 a1, .slice a2 len2 cap2] w fun e w' => e = .returned (.bool true) ∧ Below w.heap.size w w' := by
  by_cases h0 : 300 < len0
  · clear h
    go_enter Try.func5, Try.ntmps5
    go_wp2_with (first | (go_at_call 11; refine (works21 _).mono ?_; rintro e w1 ⟨rfl, hb1⟩))
    go_ret
    exact ⟨rfl, hb1⟩
  · have h2 : 300 < len2 := by omega
    clear h
    go_enter Try.func5, Try.ntmps5
    go_wp2_with (first | (go_at_call 11; refine (works21 _).mono ?_; rintro e w1 ⟨rfl, hb1⟩))
    go_ret
    exact ⟨rfl, hb1⟩
/-- the stages, one above the other. -/
def up (zs : List Int) : Nat → Int
  | 0 => 0
  | k + 1 => up zs k + 1 + zs.getD k 0
theorem up_le (zs : List Int) (n : Nat) (h : ∀ i, i < n → 0 ≤ zs.getD i 0 ∧ zs.getD i 0 ≤ 255) : ∀ k, k ≤ n → 0 ≤ up zs k ∧ up zs k ≤ 256 * (k : Int) := by
  intro k
  induction k with
  | zero => intro _; simp [up]
  | succ k ih => intro hk; have h1 := ih (by omega); have h2 := h k (by omega); unfold up; push_cast; omega
theorem up_mono (zs : List Int) (n : Nat) (h : ∀ i, i < n → 0 ≤ zs.getD i 0) (i : Nat) : ∀ j, i ≤ j → j ≤ n → up zs i ≤ up zs j := by
  intro j
  induction j with
  | zero => intro h1 _; obtain rfl : i = 0 := by omega
            exact Int.le_refl _
  | succ j ih =>
    intro h1 h2
    by_cases e : i = j + 1
    · subst e; exact Int.le_refl _
    · have h3 := ih (by omega) (by omega)
      have h4 := h j (by omega)
      show _ ≤ up zs j + 1 + zs.getD j 0
      omega
set_option maxRecDepth 20000 in
set_option maxHeartbeats 4000000 in
theorem core (ad : Option Addr) (len cap : Nat) (zs : List Int) (c : Int) (a2 : Option Addr) (len2 cap2 : Nat) (Z : Nat → Int) (Y : Nat → Bool) (w : World) (hlen : len ≤ 300) (hlen2 : len2 ≤ 300) (h2n : Hid (a2 = none → len2 = 0 ∧ cap2 = 0))
    (HC : Hid (∀ i, i < len → ∃ b1 o1, ad = some ⟨b1, o1, none⟩ ∧ b1 < w.heap.size ∧ w.cell? ⟨b1, o1 + i, none⟩ = some (.int .u8 (zs.getD i 0)) ∧ 0 ≤ zs.getD i 0 ∧ zs.getD i 0 ≤ 255))
    (HM : Hid (∀ i, i < len2 → ∃ b1 o1, a2 = some ⟨b1, o1, none⟩ ∧ b1 < w.heap.size ∧ w.cell? ⟨b1, o1 + i * 2, none⟩ = some (.int .i64 (Z i)) ∧ w.cell? ⟨b1, o1 + i * 2 + 1, none⟩ = some (.bool (Y i)))) :
    Calls Try.prog 5 #[.slice ad len cap, .int .i64 c, .slice a2 len2 cap2] w fun e w' => e = .returned (.bool true) ∧ Below w.heap.size w w' := by
  obtain ⟨i0, hi, hz0, hz1, hz2⟩ := info_parts info36
  have hup := up_le zs len (fun i hi => by obtain ⟨_, _, _, _, _, h⟩ := HC.out i hi; exact h)
  have HU := Lib.hid hup
  clear hup
  go_enter Try.func5, Try.ntmps5
  go_wp2_with fail
  refine (works21 _).mono ?_
  rintro e w1 ⟨rfl, hb1⟩
  go_wp2_with fail
  go_loopw [7, 8, 9, 10] (fun va at_ past i wr => ∃ (k p : Nat) (va' : Value), va' = va ∧ k ≤ len ∧ p ≤ k ∧ at_ = .int .i64 (up zs k) ∧ past = .int .i64 p ∧ i = .int .i64 k ∧ wr.ownsRow w.heap.size 36 2 va' k (pairs k (fun i => up zs (i + 1)) (fun _ => false)) ∧ Below w.heap.size w wr ∧ Hid ((∀ i, i < p → up zs (i + 1) < c) ∧ (p = k ∨ ¬ up zs (p + 1) < c))) (fun _ _ _ i _ => len - (intOf i).toNat)
  case atStart => exact ⟨0, 0, _, rfl, Nat.zero_le _, Nat.le_refl _, rfl, rfl, rfl, World.ownsRow_nil _ _ _ _, hb1, Lib.hid ⟨fun i hi => by omega, .inl rfl⟩⟩
  case round =>
    clear hb1
    obtain ⟨k, p, va, rfl, hk, hp, rfl, rfl, rfl, hrow, hbw, hP⟩ := hrel
    by_cases hlt : k < len
    · obtain ⟨b1, o1, rfl, hb1, hc1, hz0', hz1'⟩ := HC.out k hlt
      have hz : wr.cell? ⟨b1, o1 + k, none⟩ = some (.int .u8 (zs.getD k 0)) := (hbw.cell (p := ⟨b1, o1 + k, none⟩) hb1).trans hc1
      have hu := HU.out k (by omega)
      have hs : Hid (up zs (k + 1) = up zs k + 1 + zs.getD k 0) := Lib.hid rfl
      have hu1 := HU.out (k + 1) (by omega)
      generalize zs.getD k 0 = z at *
      obtain ⟨u, hue⟩ : ∃ u, u = up zs (k + 1) := ⟨_, rfl⟩
      have hs2 : up zs k + 1 + z = u := by rw [hue, hs.out]
      rw [← hue] at hu1
      have HUE := Lib.hid hue
      obtain ⟨u0, hu0⟩ : ∃ u0, u0 = up zs k := ⟨_, rfl⟩
      rw [← hu0] at hs2 hu ⊢
      have HR := Lib.hid hrow
      have HB := Lib.hid hbw
      clear hue hu0 hs hc1 hrow hbw
      go_wp2_with (at_builtin; refine wpList_append_own_at _ rfl _ _ 34 rfl w.heap.size 36 i0 (.agg #[.int .i64 0, .bool false]) 2 16 Try.underlying34 hi hz0 hz1 hz2 rfl (by decide) va k (pairs k (fun i => up zs (i + 1)) (fun _ => false)) rfl ?o1 ⟨wr.heap.size, 0, none⟩ 1 1 [.int .i64 u, .bool false] rfl rfl ?o2 ?o3 ?o4 ?o5 ?o6 ?_)
      case o1 => exact HR.out.alloc _
      case o3 => first | exact ⟨rfl, rfl⟩ | (intro x hx; simp at hx; rcases hx with rfl | rfl <;> rfl)
      case o4 => unfold maxLen; omega
      case o5 => omega
      case o6 => have := HB.out.size; simp; omega
      intro va2 w5 hr5 hg5 _ _
      have hsz := HB.out.size
      have hb5 : Below w.heap.size w w5 := HB.out.trans (Below.trans ((Below.refl _ _).alloc hsz _) ((Below.refl _ _).grown hg5 (by simp; omega) (fun q e => (HR.out.lt q e).1)))
      have hr6 : w5.ownsRow w.heap.size 36 2 va2 (k + 1) (pairs (k + 1) (fun i => up zs (i + 1)) (fun _ => false)) := by
        rw [pairs_succ, ← HUE.out]; simpa using hr5
      have R6 := Lib.hid (And.intro hr6 hb5)
      clear hr5 hg5 hsz hb5 hr6
      by_cases hcu : u < c
      · have hpk : p = k := by
          rcases hP.out.2 with h | h
          · exact h
          · exfalso
            by_cases e : p = k
            · subst e; rw [← HUE.out] at h; omega
            · have := up_mono zs len (fun i hi => by obtain ⟨_, _, _, _, _, h, _⟩ := HC.out i hi; exact h) (p + 1) (k + 1) (by omega) (by omega)
              rw [← HUE.out] at this
              omega
        subst hpk
        have hcu' : decide (u < c) = true := by simpa using hcu
        have HCU := Lib.hid hcu
        clear hcu
        go_wp2_with fail
        refine (past_any _ _ _).mono ?_
        rintro e wz ⟨rfl, rfl⟩
        rw [hcu']
        go_wp2_with fail
        go_roundw
        case rel => exact ⟨p + 1, p + 1, _, rfl, by omega, by omega, by rw [← HUE.out], by go_num, by go_num, R6.out.1, R6.out.2, Lib.hid ⟨fun i hi => by
          by_cases e : i = p
          · subst e; rw [← HUE.out]; exact HCU.out
          · exact hP.out.1 i (by omega), .inl rfl⟩⟩
        case measure => simp [intOf]; omega
      · have hcu' : decide (u < c) = false := by simpa using hcu
        have HCU := Lib.hid hcu
        clear hcu
        go_wp2_with fail
        refine (past_any _ _ _).mono ?_
        rintro e wz ⟨rfl, rfl⟩
        rw [hcu']
        go_wp2_with fail
        go_roundw
        case rel => exact ⟨k + 1, p, _, rfl, by omega, by omega, by rw [← HUE.out], rfl, by go_num, R6.out.1, R6.out.2, Lib.hid ⟨hP.out.1, .inr (by
          rcases hP.out.2 with h | h
          · subst h; rw [← HUE.out]; have := HCU.out; omega
          · omega)⟩⟩
        case measure => simp [intOf]; omega
    · obtain rfl : k = len := by omega
      have HR := Lib.hid (And.intro hrow hbw)
      clear hrow hbw
      go_wp2_with fail
      go_loopw [11] (fun i w2 => ∃ q : Nat, q ≤ len2 ∧ i = .int .i64 q ∧ w2 = wr ∧ Hid (∀ i, i < q → Z i < c)) (fun i _ => len2 - (intOf i).toNat)
      case atStart => exact ⟨0, Nat.zero_le _, rfl, by first | trivial | rfl, Lib.hid (fun i hi => by omega)⟩
      case round =>
        obtain ⟨q, hq, rfl, rfl, hZ⟩ := hrel
        by_cases hgo : q < len2 ∧ Z q < c
        · obtain ⟨hq2, hqc⟩ := hgo
          obtain ⟨b1, o1, rfl, hb1, hm1, hm2⟩ := HM.out q hq2
          have hz : wr.cell? ⟨b1, o1 + q * 2, none⟩ = some (.int .i64 (Z q)) := (HR.out.2.cell (p := ⟨b1, o1 + q * 2, none⟩) hb1).trans hm1
          have hz2 : wr.cell? ⟨b1, o1 + q * 2 + 1, none⟩ = some (.bool (Y q)) := (HR.out.2.cell (p := ⟨b1, o1 + q * 2 + 1, none⟩) hb1).trans hm2
          have hqi : (q : Int) < (len2 : Int) := by omega
          clear hm1 hm2
          go_wp2_with fail
          go_roundw
          case rel => exact ⟨q + 1, by omega, by go_num, by first | trivial | rfl, Lib.hid (fun i hi => by
            by_cases e : i = q
            · subst e; exact hqc
            · exact hZ.out i (by omega))⟩
          case measure => simp [intOf]; omega
        · have hstop : Hid (q = len2 ∨ ¬ Z q < c) := Lib.hid (by omega)
          have PV : Hid (PView w a2 len2 cap2 Z Y) := Lib.hid ⟨h2n.out, fun i hi => by obtain ⟨b, o, e, _, c1, c2⟩ := HM.out i hi; exact ⟨b, o, e, c1, c2⟩⟩
          have HQ : Hid (∀ i, i < q → Z i < c) := hZ
          have HPb : Hid (∀ i, i < len2 → ∃ b o, a2 = some ⟨b, o, none⟩ ∧ b < w.heap.size) := Lib.hid (fun i hi => by obtain ⟨b, o, e, h, _⟩ := HM.out i hi; exact ⟨b, o, e, h⟩)
          have hPV : ∀ wy, Below w.heap.size w wy → PView wy a2 len2 cap2 Z Y := fun wy hb => ⟨PV.out.1, fun i hi => by
            obtain ⟨b, o, e, c1, c2⟩ := PV.out.2 i hi
            obtain ⟨b', o', e', hlt'⟩ := HPb.out i hi
            have hbb : b < w.heap.size := by rw [e] at e'; cases e'; exact hlt'
            exact ⟨b, o, e, (hb.cell (p := ⟨b, o + i * 2, none⟩) hbb).trans c1, (hb.cell (p := ⟨b, o + i * 2 + 1, none⟩) hbb).trans c2⟩⟩
          have PW := Lib.hid hPV
          have C1 : Hid (∀ wy, Below wr.heap.size wr wy → Calls Try.prog 17 #[va, .int .i64 c] wy fun e w' => e = .returned (.int .i64 p) ∧ Below wy.heap.size wy w') := Lib.hid (fun wy hb => row_own w.heap.size p va k _ _ c wy (by
              obtain ⟨hl, hh⟩ := HR.out.1
              refine ⟨hl, ?_⟩
              rcases hh with hh | ⟨g, cap, cur, e, hg, hk2, h1⟩
              · exact .inl hh
              · exact .inr ⟨g, cap, cur, e, hg, (hb.block g (by rcases Nat.lt_or_ge g wr.heap.size with h | h; exact h; rw [Array.getElem?_eq_none h] at hk2; cases hk2)).trans hk2, h1⟩) hp hP.out.1 (by have := hP.out.2; omega))
          clear hPV hZ
          by_cases hq2 : q < len2
          · obtain ⟨b1, o1, rfl, hb1, hm1, hm2⟩ := HM.out q hq2
            have hz : wr.cell? ⟨b1, o1 + q * 2, none⟩ = some (.int .i64 (Z q)) := (HR.out.2.cell (p := ⟨b1, o1 + q * 2, none⟩) hb1).trans hm1
            have hqc : ¬ Z q < c := fun h => hgo ⟨hq2, h⟩
            have hqi : (q : Int) < (len2 : Int) := by omega
            clear hm1 hm2 hgo
            go_wp2_with fail
            refine (C1.out _ (Below.refl _ _)).mono ?_
            rintro e w3 ⟨rfl, hb3⟩
            have hw3 : Below w.heap.size w w3 := HR.out.2.trans (hb3.mono HR.out.2.size)
            have W3 := Lib.hid hw3
            clear hb3 hw3
            go_wp2_with (at_builtin; refine wpList_copy_pairs ?hw _ _ rfl w3.heap.size w3.heap.size len2 cap2 _ Z Y rfl rfl ?hq (Nat.le_refl _) ?hx (by omega) ?_)
            case hq => exact (by show (w3.heap.push _)[w3.heap.size]? = _; simp)
            case hx => exact PW.out _ (W3.out.alloc W3.out.size _)
            intro vc w5 hrc hbc
            have hw5 : Below w.heap.size w w5 := W3.out.trans (Below.trans ((Below.refl _ _).alloc W3.out.size _) (hbc.mono W3.out.size))
            have W5 := Lib.hid hw5
            have RC := Lib.hid hrc
            clear hw5 hrc hbc
            go_wp2_with fail
            refine (row_own w3.heap.size q vc len2 Z Y c _ RC.out (by omega) HQ.out (by have := hstop.out; omega)).mono ?_
            rintro e w6 ⟨rfl, hb6⟩
            have hw6 : Below w.heap.size w w6 := W5.out.trans (hb6.mono W5.out.size)
            clear hb6
            go_wp2_with fail
            go_ret
            exact ⟨rfl, hw6⟩
          · obtain rfl : q = len2 := by omega
            clear hgo
            go_wp2_with fail
            refine (C1.out _ (Below.refl _ _)).mono ?_
            rintro e w3 ⟨rfl, hb3⟩
            have hw3 : Below w.heap.size w w3 := HR.out.2.trans (hb3.mono HR.out.2.size)
            have W3 := Lib.hid hw3
            clear hb3 hw3
            go_wp2_with (at_builtin; refine wpList_copy_pairs ?hwB _ _ rfl w3.heap.size w3.heap.size q cap2 _ Z Y rfl rfl ?hqB (Nat.le_refl _) ?hxB (by omega) ?_)
            case hqB => exact (by show (w3.heap.push _)[w3.heap.size]? = _; simp)
            case hxB => exact PW.out _ (W3.out.alloc W3.out.size _)
            intro vc w5 hrc hbc
            have hw5 : Below w.heap.size w w5 := W3.out.trans (Below.trans ((Below.refl _ _).alloc W3.out.size _) (hbc.mono W3.out.size))
            have W5 := Lib.hid hw5
            have RC := Lib.hid hrc
            clear hw5 hrc hbc
            go_wp2_with fail
            refine (row_own w3.heap.size q vc q Z Y c _ RC.out (by omega) HQ.out (by have := hstop.out; omega)).mono ?_
            rintro e w6 ⟨rfl, hb6⟩
            have hw6 : Below w.heap.size w w6 := W5.out.trans (hb6.mono W5.out.size)
            clear hb6
            go_wp2_with fail
            go_ret
            exact ⟨rfl, hw6⟩
theorem walk (a0 : Option Addr) (len0 cap0 : Nat) (z0 : List Int) (a1 : Int) (a2 : Option Addr) (len2 cap2 : Nat) (z2 : Nat → Nat → Int) (y2 : Nat → Nat → Bool) (w : World) (w0 : IsRow .u8 w a0 len0 cap0 z0) (w1 : (Lit.int .i64 a1).wf = true) (w2 : IsMix [some .i64, none] w a2 len2 cap2 z2 y2) :
    Calls Try.prog 5 #[.slice a0 len0 cap0, .int .i64 a1, .slice a2 len2 cap2] w fun e w' => e = .returned (.bool true) ∧ Below w.heap.size w w' := by
  by_cases hbig : 300 < len0 ∨ 300 < len2
  · exact big a0 len0 cap0 a1 a2 len2 cap2 w hbig
  · refine core a0 len0 cap0 z0 a1 a2 len2 cap2 (fun i => z2 i 0) (fun i => y2 i 1) w (by omega) (by omega) (Lib.hid fun h => ?_) (Lib.hid fun i hi => ?_) (Lib.hid fun i hi => ?_)
    · rcases w2 with ⟨_, h1, h2⟩ | ⟨x, hx, _⟩
      · exact ⟨h1, h2⟩
      · rw [hx] at h; cases h
    · rcases w0 with ⟨rfl, rfl, rfl, rfl⟩ | ⟨x, rfl, hle, hm, hz, hc, hwf⟩
      · omega
      · obtain ⟨b, off, rfl, hc'⟩ := ints_at hc (by omega)
        have h1 := hc' i (by omega)
        have h2 : (Lit.int .u8 (z0.getD i 0)).wf = true := by
          have hlt : i < z0.length := by omega
          simp only [List.getD_eq_getElem?_getD, List.getElem?_eq_getElem hlt, Option.getD_some]
          exact hwf _ (List.getElem_mem hlt)
        have h3 := bounds_u8 h2
        exact ⟨b, off, rfl, World.block_lt_of_cell? w _ h1, h1, h3.1, h3.2⟩
    · rcases w2.split (by decide) with h | ⟨b, off, rfl, hb, hle, hm, hc⟩
      · omega
      · exact ⟨b, off, rfl, hb, (hc i (by omega) 0 _ rfl).1, (hc i (by omega) 1 _ rfl).1⟩
end Go.Proofs.Ytpcpohbbmeonbab.stageRows
