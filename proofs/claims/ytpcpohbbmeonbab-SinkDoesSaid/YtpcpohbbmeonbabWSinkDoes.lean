/- Any numbers are emitted in order, as long as there is room, and what was handed out stays: the law SinkDoes answers true. No condition. -/
import Derived.Test.YtpcpohbbmeonbabSinkV
import Derived.Deep.RegionHeld3
import Derived.Handy
namespace Go.Proofs.Ytpcpohbbmeonbab.sinkDoes
open Go.ChangeShapes Go.WideShapes Go.ChangeAt Go.RowKit
set_option linter.unusedVariables false
theorem big (n : Int) (b : Option Addr) (n2 c2 : Nat) (w : World) (h : 1200 < n2) :
    Calls Try.prog 6 #[.int .i64 n, .slice b n2 c2] w fun e w' => e = .returned (.bool true) ∧ Below w.heap.size w w' := by
  go_enter Try.func6, Try.ntmps6
  go_wp2_with (first | (go_at_call 18; refine (works22 _).mono ?_; rintro e w' ⟨rfl, hb1⟩))
  go_ret
  exact ⟨rfl, hb1⟩
theorem take_step (xs : List Int) (k M : Nat) (hk : k < xs.length) (hM : k < M) : xs.take (min k M) ++ [xs.getD k 0] = xs.take (min (k + 1) M) := by
  rw [show min k M = k from by omega, show min (k + 1) M = k + 1 from by omega, List.take_succ_eq_append_getElem hk]
  simp [hk]
theorem take_stay (xs : List Int) (k M : Nat) (hM : M ≤ k) : xs.take (min (k + 1) M) = xs.take (min k M) := by
  rw [show min k M = M from by omega, show min (k + 1) M = M from by omega]
theorem take_up (xs : List Int) (k M : Nat) : xs.take (min k M) <+: xs.take (min (k + 1) M) := by
  have : xs.take (min k M) = (xs.take (min (k + 1) M)).take (min k M) := by rw [List.take_take]; congr 1; omega
  rw [this]; exact List.take_prefix _ _

theorem row_mono {w : World} {base b2 : Nat} {v : Value} {n : Nat} {xs : List Value} (h : w.ownsRow base 3 1 v n xs) (hb : b2 ≤ base) : w.ownsRow b2 3 1 v n xs := by
  obtain ⟨hl, h⟩ := h
  refine ⟨hl, ?_⟩
  rcases h with h | ⟨g, cap, cur, rfl, hg, h1⟩
  · exact .inl h
  · exact .inr ⟨g, cap, cur, rfl, Nat.le_trans hb hg, h1⟩
theorem b_drew (w : World) : Below w.heap.size w w.drew := (Below.refl _ _).trans ⟨rfl, rfl, rfl, Nat.le_refl _, fun _ _ => rfl⟩
theorem keepS {B : Nat} {m : Int} {xs : List Int} {w0 W W' : World} (h : SinkAt W B m xs ∧ Below w0.heap.size w0 W) (hk : Below W.heap.size W W') : SinkAt W' B m xs ∧ Below w0.heap.size w0 W' :=
  ⟨h.1.below hk, h.2.trans (hk.mono h.2.size)⟩
set_option maxRecDepth 20000 in
set_option maxHeartbeats 4000000 in
theorem cC (n m1 : Int) (Mn : Nat) (b : Option Addr) (len c2 : Nat) (xs : List Int) (w : World) (hlen : len ≤ 1200) (hs : Hid (sMost n = Mn)) (hMN : Mn ≤ 1000)
    (hm1 : (if n < 0 then (0 : Int) else n) = m1) (hm2 : (if 1000 < m1 then (1000 : Int) else m1) = Mn) (hV : View w (.slice b len c2) xs) (hl : xs.length = len)
    (HC : Hid (∀ i, i < len → ∃ b1 o1, b = some ⟨b1, o1, none⟩ ∧ b1 < w.heap.size ∧ w.cell? ⟨b1, o1 + i, none⟩ = some (.int .i64 (xs.getD i 0)))) :
    Calls Try.prog 6 #[.int .i64 n, .slice b len c2] w fun e w' => e = .returned (.bool true) ∧ Below w.heap.size w w' := by
  have HL := Lib.hid hl
  have HV := Lib.hid hV
  clear hl hV
  go_enter Try.func6, Try.ntmps6
  go_wp2_with (first | (go_at_call 18; refine (works22 _).mono ?_; rintro e w1 ⟨rfl, hb1⟩))
  refine (new_any n _).mono ?_
  rintro e w0 ⟨rfl, hw0⟩
  rw [hs.out] at hw0
  obtain ⟨B, hB⟩ : ∃ B, B = w1.heap.size := ⟨_, rfl⟩
  rw [← hB]
  have hs0 : SinkV w0 B Mn (.slice none 0 0) [] := by
    rw [← hw0, hB]
    exact ⟨heap_made w1 _, World.ownsRow_nil _ _ _ _⟩
  have hb0 : Below w.heap.size w w0 := by rw [← hw0]; exact hb1.alloc hb1.size _
  have hBlt : w.heap.size ≤ B := by rw [hB]; exact hb1.size
  clear hw0 hb1 hB
  go_wp2_with fail
  clear hm1 hm2
  go_loopw [7, 8] (fun was i wr => ∃ (k : Nat) (v : Value) (wl : List Int) (u : Value), u = was ∧ k ≤ len ∧ i = .int .i64 k ∧ SinkV wr B Mn v (xs.take (min k Mn)) ∧ wr.ownsRow (B + 1) 3 1 was wl.length (wl.map (Value.int .i64)) ∧ (∀ k, was.ownBlock = some k → v.ownBlock ≠ some k) ∧ wl <+: xs.take (min k Mn) ∧ Below w.heap.size w wr) (fun _ i _ => len - (intOf i).toNat)
  case atStart =>
    exact ⟨0, _, [], _, rfl, Nat.zero_le _, rfl, by rw [Nat.zero_min, List.take_zero]; exact hs0, World.ownsRow_nil _ _ _ _, (by intro k hk; simp [Value.ownBlock] at hk), List.nil_prefix, hb0⟩
  case round =>
    obtain ⟨k, v, wl, was, rfl, hk, rfl, hsk, hwas, hap, hpre, hbw⟩ := hrel
    clear hs0 hb0
    have hlk : (xs.take (min k Mn)).length = min k Mn := by rw [List.length_take]; have := HL.out; omega
    by_cases hlt : k < len
    · obtain ⟨b1, o1, rfl, hb1, hc1⟩ := HC.out k hlt
      have hz : wr.cell? ⟨b1, o1 + k, none⟩ = some (.int .i64 (xs.getD k 0)) := (hbw.cell (p := ⟨b1, o1 + k, none⟩) hb1).trans hc1
      have HLK := Lib.hid hlk
      clear hlk hc1
      by_cases hM : k < Mn
      · have hst := take_step xs k Mn (by have := HL.out; omega) hM
        go_wp2_with fail
        refine (emit_v B Mn (xs.getD k 0) v _ _ hsk (by rw [HLK.out]; omega) (by omega)).mono ?_
        rintro e w2 ⟨rfl, v2, hs2, hb2, hat, hot⟩
        rw [hst] at hs2
        have hwas2 : w2.ownsRow (B + 1) 3 1 was wl.length (wl.map (Value.int .i64)) := row_kept hwas (fun q hq => hot q (hwas.lt q hq).2 (by have := (hwas.lt q hq).1; omega) (hap q hq))
        have hap2 : ∀ q, was.ownBlock = some q → v2.ownBlock ≠ some q := by
          intro q hq
          rcases hat with h | ⟨j, h, hj⟩
          · rw [h]; exact hap q hq
          · rw [h]; intro e; cases e; have := (hwas.lt q hq).2; omega
        have hpre2 : wl <+: xs.take (min (k + 1) Mn) := hpre.trans (take_up xs k Mn)
        have hl2 : ((xs.take (min (k + 1) Mn)).length : Int) = k + 1 := by rw [List.length_take]; have := HL.out; omega
        have hbw2 : Below w.heap.size w w2 := hbw.trans (hb2.mono hBlt)
        have HS := Lib.hid hs2
        have HW := Lib.hid (And.intro hwas2 (And.intro hap2 hpre2))
        clear hst hz hsk hs2 hwas hwas2 hap hap2 hat hot hpre hpre2 hb2 hbw
        go_wp2_with fail
        refine (len_any B Mn _ _ HS.out.at).mono ?_
        rintro e w3 ⟨rfl, rfl⟩
        rw [hl2]
        go_wp2_with (first | (go_at_call 22; refine (all_any B Mn _ _ HS.out.at (by rw [List.length_take]; omega)).mono ?_; rintro e w3 ⟨u3, rfl, hr3, hb3⟩))
        · have hs3 := HS.out.below hb3
          have hlt3 := (cells_two HS.out.1).2.2.2
          have hbw3 : Below w.heap.size w w3 := hbw2.trans (hb3.mono hbw2.size)
          refine ⟨⟨k + 1, _, _, _, rfl, by omega, by go_num, hs3, row_mono hr3 (by omega), ?_, List.prefix_refl _, hbw3⟩, by simp [intOf]; omega⟩
          intro q hq e
          have h1 := (hr3.lt q hq).1
          have h2 := (HS.out.2.lt q e).2
          omega
        · exact ⟨⟨k + 1, _, _, _, rfl, by omega, by go_num, HS.out, HW.out.1, HW.out.2.1, HW.out.2.2, hbw2⟩, by simp [intOf]; omega⟩
      · have hst := take_stay xs k Mn (by omega)
        go_wp2_with fail
        refine (emit_no B Mn (xs.getD k 0) _ _ hsk.at (by rw [HLK.out]; omega)).mono ?_
        rintro e w2 ⟨rfl, nq, hw2⟩
        have hbq : Below wr.heap.size wr w2 := by rw [hw2]; exact below_drewN (Below.refl _ _) _
        have hs2 := hsk.below hbq
        rw [← hst] at hs2
        have hpre2 := hpre
        rw [← hst] at hpre2
        have hwas2 := row_below2 hwas hbq
        have hl2 : ((xs.take (min (k + 1) Mn)).length : Int) = Mn := by rw [List.length_take]; have := HL.out; omega
        have hbw2 : Below w.heap.size w w2 := hbw.trans (hbq.mono hbw.size)
        have HS := Lib.hid hs2
        have HW := Lib.hid (And.intro hwas2 (And.intro hap hpre2))
        clear hst hz hsk hs2 hwas hwas2 hap hpre hpre2 hbq hbw hw2
        go_wp2_with fail
        refine (len_any B Mn _ _ HS.out.at).mono ?_
        rintro e w3 ⟨rfl, rfl⟩
        rw [hl2]
        go_wp2_with (first | (go_at_call 22; refine (all_any B Mn _ _ HS.out.at (by rw [List.length_take]; omega)).mono ?_; rintro e w3 ⟨u3, rfl, hr3, hb3⟩))
        · have hs3 := HS.out.below hb3
          have hlt3 := (cells_two HS.out.1).2.2.2
          have hbw3 : Below w.heap.size w w3 := hbw2.trans (hb3.mono hbw2.size)
          refine ⟨⟨k + 1, _, _, _, rfl, by omega, by go_num, hs3, row_mono hr3 (by omega), ?_, List.prefix_refl _, hbw3⟩, by simp [intOf]; omega⟩
          intro q hq e
          have h1 := (hr3.lt q hq).1
          have h2 := (HS.out.2.lt q e).2
          omega
        · exact ⟨⟨k + 1, _, _, _, rfl, by omega, by go_num, HS.out, HW.out.1, HW.out.2.1, HW.out.2.2, hbw2⟩, by simp [intOf]; omega⟩
    · have hkl : k = len := by omega
      subst hkl
      go_wp2_with fail
      refine (all_any B Mn _ _ hsk.at (by rw [hlk]; omega)).mono ?_
      rintro e w2 ⟨all, rfl, hr2, hb2⟩
      have hs2 := hsk.below hb2
      have hwas2 := row_below2 hwas hb2
      have hbw2 : Below w.heap.size w w2 := hbw.trans (hb2.mono hbw.size)
      have hne : ∀ q, all.ownBlock = some q → B < q ∧ v.ownBlock ≠ some q := by
        intro q hq
        have h1 := (hr2.lt q hq).1
        refine ⟨by have := (cells_two hsk.1).2.2.2; omega, fun e => ?_⟩
        have := (hsk.2.lt q e).2
        omega
      -- TAIL
      have hc2 : k ≤ c2 := by obtain ⟨a', c', hv, hm, _⟩ := HV.out; simp only [Value.slice.injEq] at hv; have := HL.out; omega
      obtain ⟨T, hT⟩ : ∃ T, T = min k Mn := ⟨_, rfl⟩
      have hTk : T ≤ k := by omega
      have hTc : T ≤ c2 := by omega
      have hmin : (if Mn < k then (Mn : Int) else (k : Int)) = (T : Int) := by split <;> omega
      rw [← hT] at hr2 hs2 hpre hlk
      have hltk := HV.out.below hbw2 |>.take T (by have := HL.out; omega)
      have heq : (xs.take T == xs.take T) = true := by simp
      have hpb := (preC_iff wl (xs.take T)).2 hpre
      have hva := view_of_own hr2
      have hvw := view_of_own hwas2
      rw [hlk] at hr2
      have HR := Lib.hid hr2
      have HSK := Lib.hid hs2
      have HNE := Lib.hid hne
      have HLK := Lib.hid hlk
      have hT2 : T ≤ 1000 := by omega
      have hB2 : B < w2.heap.size := (cells_two hs2.1).2.2.2
      clear hsk hwas hap hpre hbw hwas2 hr2 hb2 hs2 hne hlk hk hT
      obtain ⟨aa, ac, rfl⟩ := row_slice HR.out
      have hfit : (T : Int) ≤ 9223372036854775807 := by omega
      rcases Nat.eq_zero_or_pos T with hT0 | hT0
      · subst hT0
        go_wp2_with fail
        refine (ints_any _ _ (xs.take 0) (xs.take 0) _ hva hltk).mono ?_
        rintro e w3 ⟨rfl, n3, hw3⟩
        have hb3 : Below w2.heap.size w2 w3 := by rw [hw3]; exact below_drewN (Below.refl _ _) _
        clear hw3
        rw [heq]
        go_wp2_with fail
        refine (begins_any _ _ wl (xs.take 0) _ (hvw.below hb3) (hva.below hb3)).mono ?_
        rintro e w4 ⟨rfl, n4, hw4⟩
        rw [hpb]
        have hb4 : Below w2.heap.size w2 w4 := by rw [hw4]; exact below_drewN hb3 _
        clear hw4
        go_wp2_with fail
        refine (emit_nil 1 _).mono ?_
        rintro e w5 ⟨rfl, n5, hw5⟩
        have hb5 : Below w2.heap.size w2 w5 := by rw [hw5]; exact below_drewN hb4 _
        clear hw5 hb3 hb4
        have hbw5 : Below w.heap.size w w5 := hbw2.trans (hb5.mono hbw2.size)
        have hs5 := HSK.out.below hb5
        go_wp2_with (first | (go_at_call 21; refine (len_nil _).mono ?_; rintro e w' ⟨rfl, rfl⟩) | (go_at_call 22; refine (all_nil _).mono ?_; rintro e w' ⟨rfl, rfl⟩))
        have hn5 : w.heap.size ≤ w5.heap.size := hbw5.size
        go_wp2_with fail
        have hs6 := hs5
        have hbw6 := hbw5
        have hn6 := hn5
        go_region_held3 (fun w' => SinkAt w' B Mn (xs.take 0) ∧ Below w.heap.size w w')
          (first | (with_reducible assumption) | exact ⟨hs6.at, hbw6⟩ | exact keepS ⟨hs6.at, hbw6⟩ (b_drew _) | exact ⟨hs7.at, hbw7⟩ | (refine keepS (by assumption) ?_; first | assumption | exact b_drew _ | (go_grown; done)))
          (first | (go_at_call 22; refine (all_any B Mn (xs.take 0) _ (by first | exact hs6.at | exact (hs6.below (by go_grown)).at) (by rw [List.length_take]; omega)).mono ?_; rintro e w7 ⟨u7, rfl, hr7, hb7'⟩; have hb7 : Below w5.heap.size w5 w7 := Below.trans (by first | exact Below.refl _ _ | go_grown) hb7'; have hs7 := hs6.below hb7; have hbw7 := hbw6.trans (hb7.mono hn6); have hv7 := view_of_own hr7; have hl7 := (HV.out.below hbw7).take 0 (by have := HL.out; omega)) | (go_at_call 23; refine (ints_any _ _ (xs.take 0) (xs.take 0) _ (by first | exact hv7 | exact hv7.below (by go_grown)) (by first | exact hl7 | exact hl7.below (by go_grown))).mono ?_; rintro e w8 ⟨rfl, n8, hw8⟩; rw [heq]; have hb8 : Below w7.heap.size w7 w8 := (by rw [hw8]; first | exact below_drewN (Below.refl _ _) _ | exact below_drewN (b_drew _) _); clear hw8; have hs8 := hs7.below hb8; have hbw8 := hbw7.trans (hb8.mono hbw7.size)))
        all_goals
          go_wp2_with fail
          go_ret
          first | exact ⟨rfl, And.right (by assumption)⟩ | exact ⟨rfl, hbw8⟩
      · obtain ⟨g, rfl⟩ : ∃ g, aa = some ⟨g, 0, none⟩ := by
          rcases HR.out.2 with ⟨h, _⟩ | ⟨g, cap, cur, h, _⟩
          · cases h; omega
          · cases h; exact ⟨g, rfl⟩
        have hgb := HNE.out g rfl
        have hgl := (HR.out.lt g rfl).2
        have hx : w2.cell? ⟨g, 0, none⟩ = some (.int .i64 (xs.getD 0 0)) := by
          have h1 := HR.out.cells (g := g) rfl 0 (.int .i64 (xs.getD 0 0)) (by rw [List.getElem?_map, List.getElem?_take_of_lt hT0]; have := HL.out; rw [List.getElem?_eq_getElem (by omega)]; simp [List.getD, List.getElem?_eq_getElem (show 0 < xs.length by omega)])
          exact h1
        have hf : w2.frozen? ⟨g, 0, none⟩ = false := by
          rcases HR.out.2 with ⟨h, _⟩ | ⟨g', cap, cur, h, _, hg, _⟩
          · cases h
          · cases h; simp [World.frozen?, hg]
        go_wp2_with fail
        refine (ints_any _ _ (xs.take T) (xs.take T) _ hva hltk).mono ?_
        rintro e w3 ⟨rfl, n3, hw3⟩
        have hb3 : Below w2.heap.size w2 w3 := by rw [hw3]; exact below_drewN (Below.refl _ _) _
        clear hw3
        rw [heq]
        go_wp2_with fail
        refine (begins_any _ _ wl (xs.take T) _ (hvw.below hb3) (hva.below hb3)).mono ?_
        rintro e w4 ⟨rfl, n4, hw4⟩
        rw [hpb]
        have hb4 : Below w2.heap.size w2 w4 := by rw [hw4]; exact below_drewN hb3 _
        clear hw4
        go_wp2_with fail
        refine (emit_nil 1 _).mono ?_
        rintro e w5 ⟨rfl, n5, hw5⟩
        have hb5 : Below w2.heap.size w2 w5 := by rw [hw5]; exact below_drewN hb4 _
        clear hw5 hb3 hb4
        have hbw5 : Below w.heap.size w w5 := hbw2.trans (hb5.mono hbw2.size)
        have hs5 := HSK.out.below hb5
        have hx5 := (hb5.cell (p := ⟨g, 0, none⟩) hgl).trans hx
        have hf5 : w5.frozen? ⟨g, 0, none⟩ = false := by have e := hb5.block g hgl; simp only [World.frozen?, e] at hf ⊢; exact hf
        clear hx hf
        go_wp2_with (first | (go_at_call 21; refine (len_nil _).mono ?_; rintro e w' ⟨rfl, rfl⟩) | (go_at_call 22; refine (all_nil _).mono ?_; rintro e w' ⟨rfl, rfl⟩))
        have hn5 : w.heap.size ≤ w5.heap.size := hbw5.size
        obtain ⟨w6, hw6⟩ : ∃ w6, w6 = w5.setCell ⟨g, 0, none⟩ (.int .i64 (wrap64 (xs[0]?.getD 0 + 1))) := ⟨_, rfl⟩
        rw [← hw6]
        have hs6 : SinkV w6 B Mn v (xs.take T) := by
          rw [hw6]
          exact hs5.kept (Below.heap_setCell w5 ⟨g, 0, none⟩ _ B (by intro e; have h1 := hgb.1; have e2 : g = B := (by first | exact e | exact e.symm); omega)) (fun q hq => Below.heap_setCell w5 ⟨g, 0, none⟩ _ q (by intro e; have e2 : g = q := (by first | exact e | exact e.symm); rw [e2] at hgb; exact hgb.2 hq))
        have hbw6 : Below w.heap.size w w6 := by rw [hw6]; exact hbw5.setCell (by have := hgb.1; show w.heap.size ≤ g; omega) _
        have hn6 := hbw6.size
        clear hw6 hx5 hf5
        go_region_held3 (fun w' => SinkAt w' B Mn (xs.take T) ∧ Below w.heap.size w w')
          (first | (with_reducible assumption) | exact ⟨hs6.at, hbw6⟩ | exact keepS ⟨hs6.at, hbw6⟩ (b_drew _) | exact ⟨hs7.at, hbw7⟩ | (refine keepS (by assumption) ?_; first | assumption | exact b_drew _ | (go_grown; done)))
          (first | (go_at_call 22; refine (all_any B Mn (xs.take T) _ (by first | exact hs6.at | exact (hs6.below (by go_grown)).at) (by rw [List.length_take]; omega)).mono ?_; rintro e w7 ⟨u7, rfl, hr7, hb7'⟩; have hb7 : Below w6.heap.size w6 w7 := Below.trans (by first | exact Below.refl _ _ | go_grown) hb7'; have hs7 := hs6.below hb7; have hbw7 := hbw6.trans (hb7.mono hn6); have hv7 := view_of_own hr7; have hl7 := (HV.out.below hbw7).take T (by have := HL.out; omega)) | (go_at_call 23; refine (ints_any _ _ (xs.take T) (xs.take T) _ (by first | exact hv7 | exact hv7.below (by go_grown)) (by first | exact hl7 | exact hl7.below (by go_grown))).mono ?_; rintro e w8 ⟨rfl, n8, hw8⟩; rw [heq]; have hb8 : Below w7.heap.size w7 w8 := (by rw [hw8]; first | exact below_drewN (Below.refl _ _) _ | exact below_drewN (b_drew _) _); clear hw8; have hs8 := hs7.below hb8; have hbw8 := hbw7.trans (hb8.mono hbw7.size)))
        all_goals
          go_wp2_with fail
          go_ret
          first | exact ⟨rfl, And.right (by assumption)⟩ | exact ⟨rfl, hbw8⟩
theorem room_of (n : Int) : ∃ (m1 : Int) (Mn : Nat), sMost n = Mn ∧ Mn ≤ 1000 ∧ (if n < 0 then (0 : Int) else n) = m1 ∧ (if 1000 < m1 then (1000 : Int) else m1) = Mn := by
  have hb := sMost_bd n
  refine ⟨if n < 0 then 0 else n, (sMost n).toNat, by omega, by omega, rfl, ?_⟩
  have e : ((sMost n).toNat : Int) = sMost n := by omega
  rw [e]
  unfold sMost
  by_cases h : n < 0
  · rw [if_pos h, if_pos h]; decide
  · rw [if_neg h, if_neg h]
theorem walk (a0 : Int) (a1 : Option Addr) (len1 cap1 : Nat) (z1 : List Int) (w : World) (w0 : (Lit.int .i64 a0).wf = true) (w1 : IsRow .i64 w a1 len1 cap1 z1) :
    Calls Try.prog 6 #[.int .i64 a0, .slice a1 len1 cap1] w fun e w' => e = .returned (.bool true) ∧ Below w.heap.size w w' := by
  by_cases h : 1200 < len1
  · exact big a0 a1 len1 cap1 w h
  · obtain ⟨m1, Mn, h1, h2, h3, h4⟩ := room_of a0
    have hV := view_of_row w1
    have hl : (z1.take len1).length = len1 := by
      obtain ⟨_, _, hv, _⟩ := hV
      simp only [Value.slice.injEq] at hv
      omega
    refine cC a0 m1 Mn a1 len1 cap1 _ w (by omega) (Lib.hid h1) h2 h3 h4 hV hl (Lib.hid fun i hi => ?_)
    obtain ⟨a', c', hv, _, _, hc⟩ := hV
    obtain ⟨b, off, rfl, hlt, _, hcell⟩ := hc (by intro e; rw [e] at hl; simp at hl; omega)
    simp only [Value.slice.injEq] at hv
    exact ⟨b, off, hv.1, hlt, hcell i (by omega)⟩
end Go.Proofs.Ytpcpohbbmeonbab.sinkDoes
