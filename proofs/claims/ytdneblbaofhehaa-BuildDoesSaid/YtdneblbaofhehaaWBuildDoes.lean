/- BuildDoes: whatever is put together (layer 7). -/
import Derived.Test.YtdneblbaofhehaaBdV
import Derived.Test.YtdneblbaofhehaaBdW
import Derived.Deep.Cut
namespace Go.Proofs.Ytdneblbaofhehaa.buildDoes
open Go.ChangeShapes Go.WideShapes Go.ChangeAt Go.RowKit Go.Maps
open Go.Proofs.Ytdneblbaofhehaa.ro
open Go.Proofs.Ytdneblbaofhehaa.pr
open Go.Proofs.Ytdneblbaofhehaa.bd
open Go.Proofs.Ytdneblbaofhehaa.ins (kb tr3)
attribute [local go_sem ↓] Go.wp_at_zero Go.wp_at_succ
set_option linter.unusedVariables false
set_option linter.unusedSimpArgs false
abbrev sA : ByteArray := ⟨#[97]⟩
/-- what an end answers: memory, functions, error. -/
def resM (mem : Int) : Option (List (List I4)) → Int × List (List I4) × Int
  | none => (0, [], 7)
  | some L => if prE mem L = 0 then (mem, L, 0) else (0, [], prE mem L)
theorem endP_uni {w w' : World} {mem : Int} {R : Option (List (List I4))} {e : Ending} (h : EndP w mem R e w') :
    Below w.heap.size w w' ∧ ∃ a n c, e = .returned (.tuple #[.agg #[.int .i64 (resM mem R).1, .slice a n c], .int .i64 (resM mem R).2.2]) ∧ PM w' (.slice a n c) (resM mem R).2.1 := by
  obtain ⟨hb, h⟩ := h
  refine ⟨hb, ?_⟩
  cases R with
  | none => exact ⟨none, 0, 0, h, PM.nil _⟩
  | some L =>
    have h' : if prE mem L = 0 then ∃ v rows, e = .returned (.tuple #[.agg #[.int .i64 mem, v], .int .i64 0]) ∧ OP w' (w.heap.size + 1 + 1) v rows L else e = .returned (.tuple #[.agg #[.int .i64 0, .slice none 0 0], .int .i64 (prE mem L)]) := h
    by_cases e0 : prE mem L = 0
    · rw [if_pos e0] at h'
      obtain ⟨v, rows, he, hp⟩ := h'
      have hr : resM mem (some L) = (mem, L, 0) := if_pos e0
      obtain ⟨a, c, rfl, _, _⟩ := (OP.pm hp).form
      rw [hr]
      exact ⟨a, _, c, he, OP.pm hp⟩
    · rw [if_neg e0] at h'
      have hr : resM mem (some L) = (0, [], prE mem L) := if_neg e0
      rw [hr]
      exact ⟨none, 0, 0, h', PM.nil _⟩
structure BX (w : World) (B : Nat) (M : Int) (v : Value) (L : List (List I4)) : Prop where
  o : w.heap[B]? = some (.cells #[.int .i64 M, v] 38 (0, 0))
  p : PM w v L
theorem BX.below {w w' : World} {B : Nat} {M : Int} {v : Value} {L : List (List I4)} (h : BX w B M v L) (hb : Below w.heap.size w w') : BX w' B M v L := ⟨kb h.o hb, h.p.below hb⟩
theorem BX.cells {w : World} {B : Nat} {M : Int} {v : Value} {L : List (List I4)} (h : BX w B M v L) : w.cell? ⟨B, 0, none⟩ = some (.int .i64 M) ∧ w.cell? ⟨B, 1, none⟩ = some v := ⟨ro.cel h.o 0, ro.cel h.o 1⟩
theorem BX.new {w : World} {M : Int} {v : Value} {L : List (List I4)} (h : PM w v L) : BX (w.alloc (.cells #[.int .i64 M, v] 38)) w.heap.size M v L := ⟨heap_alloc_new _ _, h.below (by go_grown)⟩
theorem bp_end {w0 w : World} {Bb : Nat} {mem : Int} {wv : Value} {ws : List Int} {m : List St} (h : BP w0 Bb mem wv ws (run m) w) (hn : m.length ≤ 300) (hk : ∀ o ∈ m, kOk o) (hs : ∀ o ∈ m, o.s.size ≤ 1000) :
    Calls Try.prog 11 #[.pointer (some ⟨Bb, 0, none⟩)] w (EndP w mem (endR m)) := by
  obtain ⟨ρ, fv, fs, h1, h2, _⟩ := h
  have hl : fs.length ≤ 300 := by
    have := run_len _ m rfl
    rw [← h2, List.length_map] at this
    omega
  refine end_v h1 (by omega) (fun j x hx => ?_) _ (endR_eq hk h2)
  have hp : (run m)[j]? = some (toP x) := by rw [← h2, List.getElem?_map, hx]; rfl
  have ho := run_ok _ m rfl hs j (toP x) hp
  exact ⟨by have := ho.c; show x.cs.length ≤ _; have e : (toP x).cs = x.cs := rfl; rw [e] at this; omega, by have := ho.l; have e : (toP x).ls = x.ls := rfl; rw [e] at this; omega, ho.a⟩
theorem bp_want {w0 w : World} {Bb : Nat} {mem : Int} {wa : Option Addr} {wn wc : Nat} {ws : List Int} {ps : List PF} (h : BP w0 Bb mem (.slice wa wn wc) ws ps w) {k : Nat} {x : Int} (hx : ws[k]? = some x) :
    ∃ g, wa = some ⟨g, 0, none⟩ ∧ w.cell? ⟨g, k, none⟩ = some (.int .i64 x) := by
  obtain ⟨ρ, fv, fs, _, _, h3⟩ := h
  obtain ⟨hl, ⟨e, h0⟩ | ⟨g, cap, cur, e, hg, hh, h1, h2, h4, h5⟩⟩ := h3.o
  · have : ws.length = 0 := by simpa using h0
    rw [List.length_eq_zero_iff.1 this] at hx
    simp at hx
  · rw [Value.slice.injEq] at e
    obtain ⟨rfl, _, _⟩ := e
    obtain ⟨b, o, e, _, hc⟩ := RV.at (OR.rv recN h3.o) k x hx
    rw [Option.some.injEq, Addr.mk.injEq] at e
    obtain ⟨rfl, rfl, _⟩ := e
    exact ⟨_, rfl, by simpa using hc 0 _ rfl⟩
set_option maxRecDepth 20000 in
set_option maxHeartbeats 4000000 in
theorem walk_in (mem : Int) (a1 : Option Addr) (n1 c1 : Nat) (l : List St) (w : World) (h : RV 7 enO w (.slice a1 n1 c1) l) (hz : ∀ o ∈ l, o.s.size ≤ maxLen) :
    Calls Try.prog 3 #[.int .i64 mem, .slice a1 n1 c1] w fun e w' => e = .returned (.bool true) ∧ Below w.heap.size w w' := by
  have HW := Lib.hid (works_v w)
  have HF0 := Lib.hid (fun W (hb : Below w.heap.size w W) => few_v a1 n1 c1 l W (h.below hb) hz)
  clear h hz
  go_enter Try.func3, Try.ntmps3
  go_wp2_with fail
  refine HW.out.mono ?_
  rintro e wa ⟨rfl, hba⟩
  have HBA := Lib.hid hba
  have HF := Lib.hid (HF0.out wa hba)
  clear HW hba HF0
  go_wp2_with fail
  refine HF.out.mono ?_
  rintro e w2 ⟨hb2, h2⟩
  have HB2 := Lib.hid (tr3 HBA.out hb2)
  rcases h2 with rfl | ⟨mv, rfl, hfew, hrow⟩
  · clear HF hb2
    go_wp2_with fail
    go_ret
    exact ⟨rfl, HB2.out⟩
  · obtain ⟨m, hm⟩ : ∃ m, l.filter kB = m := ⟨_, rfl⟩
    rw [hm] at hrow
    have hk : ∀ o ∈ m, kOk o := fun o ho => by
      rw [← hm] at ho
      have := (List.mem_filter.1 ho).2
      simpa [kB, kOk] using this
    have hs : ∀ o ∈ m, o.s.size ≤ 1000 := fun o ho => by
      rw [← hm] at ho
      have := hfew.2 o (List.mem_filter.1 ho).1
      omega
    have hl : m.length ≤ 300 := by
      rw [← hm]
      have := List.length_filter_le kB l
      have := hfew.1
      omega
    obtain ⟨ma, mc, rfl⟩ := hrow.form
    obtain ⟨n, hn⟩ : ∃ n, m.length = n := ⟨_, rfl⟩
    rw [hn] at hrow hl ⊢
    have HN := Lib.hid hn
    have HK := Lib.hid hk
    have HS := Lib.hid hs
    have HRM := Lib.hid (OR.rv recO hrow)
    have HNEW := Lib.hid (new_v mem w2)
    clear HF hb2 hfew hrow hm hk hs hn
    go_wp2_with fail
    refine HNEW.out.mono ?_
    rintro e w3 ⟨Bb, ρ, rfl, hB3⟩
    have HAN := Lib.hid (answer_v ma n mc m w3 (HRM.out.below hB3.b) HK.out hl)
    have HB3 := Lib.hid hB3
    clear hB3 HNEW
    go_wp2_with fail
    refine HAN.out.mono ?_
    rintro e w4 ⟨wv, rfl, ho4, hb4⟩
    have hBP : BP w2 Bb mem wv (ansT m n) (run (m.take 0)) w4 := ⟨ext ρ w3.heap.size 9, _, [], HB3.out.below hb4, rfl, ⟨OR.rebase (B := 0) (by
      obtain ⟨hl, h1 | ⟨g, cap, cur, h1, h2, hh, h3⟩⟩ := ho4
      · exact ⟨hl, .inl h1⟩
      · exact ⟨hl, .inr ⟨g, cap, cur, h1, Nat.zero_le _, hh, h3⟩⟩) (fun g _ => Nat.zero_le _), fun g hg => ext_ge ρ 9 ((ho4.lt g hg).1)⟩⟩
    obtain ⟨wA, wC, rfl⟩ := ho4.form
    rw [ansT_len] at hBP ⊢
    have HBP := Lib.hid hBP
    clear hBP ho4 hb4 HB3 HAN
    go_wp2_with fail
    go_loopw [9] (fun iv wr => ∃ k : Nat, k ≤ n ∧ iv = .int .i64 (k : Int) ∧ Hid (BP w2 Bb mem (.slice wA n wC) (ansT m n) (run (m.take k)) wr)) (fun iv _ => n - (intOf iv).toNat)
    case atStart => exact ⟨0, Nat.zero_le _, rfl, HBP⟩
    case round =>
      obtain ⟨k, hk, rfl, HBK⟩ := hrel
      clear HBP
      by_cases hlt : k < n
      · obtain ⟨o, ho⟩ : ∃ o, m[k]? = some o := ⟨_, List.getElem?_eq_getElem (by rw [HN.out]; exact hlt)⟩
        obtain ⟨b, f, rfl, hbl, c0, c1, c2, c3, c4, c5, c6⟩ := RV.seven (HRM.out.below HBK.out.bel) k o ho
        have hltI : (k : Int) < (n : Int) := by omega
        have hwx := ansT_at ho hlt
        have hrt := run_take ho
        have hlen : (run (m.take k)).length ≤ 400 := by
          have := run_len _ (m.take k) rfl
          have := List.length_take_le k m
          omega
        have hpok : ∀ (j : Nat) (p : PF), (run (m.take k))[j]? = some p → POk 400 p := fun j p hp => (run_ok _ (m.take k) rfl (fun o ho => HS.out o (List.mem_of_mem_take ho)) j p hp).mono (by
          have := List.length_take_le k m
          omega)
        obtain ⟨av, hav⟩ : ∃ av, ans (run (m.take k)) o = av := ⟨_, rfl⟩
        have hst := step_v (HBK.out.below (w' := wr.drew) (bd.below_drewN wr 1)) hlen hpok o (HS.out o (List.mem_of_getElem? ho)) (HK.out o (List.mem_of_getElem? ho))
        have CS : Hid (Calls Try.prog 10 #[.pointer (some ⟨Bb, 0, none⟩), .agg #[.int .i64 o.k, .int .i64 o.r, .string o.s, .int .i64 o.x.1, .int .i64 o.x.2.1, .int .i64 o.x.2.2.1, .int .i64 o.x.2.2.2]] wr.drew fun e w' => e = .returned (.int .i64 av) ∧ Hid (BP w2 Bb mem (.slice wA n wC) (ansT m n) (run (m.take (k + 1))) w')) := Lib.hid (hst.mono (fun e w' h => ⟨by rw [← hav]; exact h.1, Lib.hid (by rw [hrt]; exact h.2)⟩))
        rw [hav] at hwx
        obtain ⟨g, rfl, hwc⟩ := bp_want HBK.out hwx
        obtain ⟨⟨kd, rg, sm, ⟨x0, x1, x2, x3⟩⟩, rfl⟩ : ∃ q : St, o = q := ⟨_, rfl⟩
        have HWC : Hid (∀ w', Hid (BP w2 Bb mem (.slice (some ⟨g, 0, none⟩) n wC) (ansT m n) (run (m.take (k + 1))) w') → w'.cell? ⟨g, k, none⟩ = some (.int .i64 av) ∧ w'.cell? ⟨b, f + k * 7, none⟩ = some (.int .i64 kd) ∧ w'.cell? ⟨b, f + k * 7 + 1, none⟩ = some (.int .i64 rg) ∧ w'.cell? ⟨b, f + k * 7 + 2, none⟩ = some (.string sm) ∧ w'.cell? ⟨b, f + k * 7 + 3, none⟩ = some (.int .i64 x0) ∧ w'.cell? ⟨b, f + k * 7 + 4, none⟩ = some (.int .i64 x1) ∧ w'.cell? ⟨b, f + k * 7 + 5, none⟩ = some (.int .i64 x2) ∧ w'.cell? ⟨b, f + k * 7 + 6, none⟩ = some (.int .i64 x3)) := Lib.hid (fun w' h => by
          obtain ⟨g', e, hc⟩ := bp_want h.out hwx
          rw [Option.some.injEq, Addr.mk.injEq] at e
          obtain ⟨rfl, _⟩ := e
          obtain ⟨b', f', e', _, d0, d1, d2, d3, d4, d5, d6⟩ := RV.seven (HRM.out.below h.out.bel) k _ ho
          rw [Option.some.injEq, Addr.mk.injEq] at e'
          obtain ⟨rfl, rfl, _⟩ := e'
          exact ⟨hc, d0, d1, d2, d3, d4, d5, d6⟩)
        dsimp only at c0 c1 c2 c3 c4 c5 c6 CS
        have hvv : (av != av) = false := by simp
        have hwd : wr.drew.cell? ⟨g, k, none⟩ = some (.int .i64 av) ∧ wr.drew.cell? ⟨b, f + k * 7, none⟩ = some (.int .i64 kd) ∧ wr.drew.cell? ⟨b, f + k * 7 + 1, none⟩ = some (.int .i64 rg) ∧ wr.drew.cell? ⟨b, f + k * 7 + 2, none⟩ = some (.string sm) ∧ wr.drew.cell? ⟨b, f + k * 7 + 3, none⟩ = some (.int .i64 x0) ∧ wr.drew.cell? ⟨b, f + k * 7 + 4, none⟩ = some (.int .i64 x1) ∧ wr.drew.cell? ⟨b, f + k * 7 + 5, none⟩ = some (.int .i64 x2) ∧ wr.drew.cell? ⟨b, f + k * 7 + 6, none⟩ = some (.int .i64 x3) := ⟨hwc, c0, c1, c2, c3, c4, c5, c6⟩
        clear ho hwx hrt hlen hpok hav hst
        go_wp2_with fail
        go_region_held3 (fun w' => w'.cell? ⟨g, k, none⟩ = some (.int .i64 av) ∧ w'.cell? ⟨b, f + k * 7, none⟩ = some (.int .i64 kd) ∧ w'.cell? ⟨b, f + k * 7 + 1, none⟩ = some (.int .i64 rg) ∧ w'.cell? ⟨b, f + k * 7 + 2, none⟩ = some (.string sm) ∧ w'.cell? ⟨b, f + k * 7 + 3, none⟩ = some (.int .i64 x0) ∧ w'.cell? ⟨b, f + k * 7 + 4, none⟩ = some (.int .i64 x1) ∧ w'.cell? ⟨b, f + k * 7 + 5, none⟩ = some (.int .i64 x2) ∧ w'.cell? ⟨b, f + k * 7 + 6, none⟩ = some (.int .i64 x3)) (first | (with_reducible assumption) | (with_reducible exact hwd) | exact hwd)
          (first | (go_at_call 10; (with_reducible refine CS.out.mono ?_); rintro e w5 ⟨rfl, hB5⟩; have hw5 := HWC.out _ hB5))
        all_goals
          clear c0 c1 c2 c3 c4 c5 c6 CS HWC hwd hwc hw5
          go_wp2_with fail
          go_roundw
          case rel => exact ⟨k + 1, by omega, by go_num, by assumption⟩
          case measure => simp [intOf]; omega
      · obtain rfl : n = k := by omega
        have htk : m.take n = m := by rw [← HN.out, List.take_length]
        have HBM : Hid (BP w2 Bb mem (.slice wA n wC) (ansT m n) (run m) wr) := Lib.hid (by have := HBK.out; rw [htk] at this; exact this)
        obtain ⟨M, L, cd, hres⟩ : ∃ M L cd, resM mem (endR m) = (M, L, cd) := ⟨_, _, _, rfl⟩
        have HE1 := Lib.hid (bp_end HBM.out (by rw [HN.out]; omega) HK.out HS.out)
        have HRES := Lib.hid hres
        clear HBK htk hres
        go_wp2_with fail
        refine HE1.out.mono ?_
        rintro e w5 h5
        obtain ⟨hb5, pa, pn, pc, he5, hp5⟩ := endP_uni h5
        rw [HRES.out] at he5 hp5
        dsimp only at he5 hp5
        subst he5
        obtain ⟨W5, hW5⟩ : ∃ W5, w5.alloc (.cells #[.int .i64 M, .slice pa pn pc] 38) = W5 := ⟨_, rfl⟩
        have hX5 : BX W5 w5.heap.size M (.slice pa pn pc) L := by rw [← hW5]; exact BX.new hp5
        have hb5' : Below wr.heap.size wr W5 := hb5.trans (by rw [← hW5]; exact (Below.mono (by go_grown) hb5.size))
        obtain ⟨P5, hP5⟩ : ∃ P5, w5.heap.size = P5 := ⟨_, rfl⟩
        rw [hP5] at hX5
        have HX5 := Lib.hid hX5
        have HP5 := Lib.hid hP5
        have HB5 := Lib.hid hb5'
        have HW5 := Lib.hid hW5
        have HE2 := Lib.hid (rend_v mem ma n mc m W5 (HRM.out.below (HBM.out.below hb5').bel) HK.out (by omega))
        clear h5 hb5 hp5 hW5 hX5 hb5' hP5 HE1
        go_wp2_with fail
        rw [HW5.out, HP5.out]
        refine HE2.out.mono ?_
        rintro e w6 h6
        obtain ⟨hb6, qa, qn, qc, he6, hp6⟩ := endP_uni h6
        rw [HRES.out] at he6 hp6
        dsimp only at he6 hp6
        subst he6
        obtain ⟨W6, hW6⟩ : ∃ W6, w6.alloc (.cells #[.int .i64 M, .slice qa qn qc] 38) = W6 := ⟨_, rfl⟩
        have hX6 : BX W6 w6.heap.size M (.slice qa qn qc) L := by rw [← hW6]; exact BX.new hp6
        have hb6' : Below W5.heap.size W5 W6 := hb6.trans (by rw [← hW6]; exact (Below.mono (by go_grown) hb6.size))
        obtain ⟨P6, hP6⟩ : ∃ P6, w6.heap.size = P6 := ⟨_, rfl⟩
        rw [hP6] at hX6
        have HX6 := Lib.hid hX6
        have HP6 := Lib.hid hP6
        have HX5b := Lib.hid (HX5.out.below hb6')
        have HB6 := Lib.hid (tr3 HB5.out hb6')
        have HW6 := Lib.hid hW6
        have HE3 := Lib.hid (bp_end (HBM.out.below HB6.out) (by rw [HN.out]; omega) HK.out HS.out)
        clear h6 hb6 hp6 hW6 hX6 hb6' hP6 HE2 HX5 HP5 HW5
        go_wp2_with fail
        rw [HW6.out, HP6.out]
        refine HE3.out.mono ?_
        rintro e w7 h7
        obtain ⟨hb7, ra, rn, rc, he7, hp7⟩ := endP_uni h7
        rw [HRES.out] at he7 hp7
        dsimp only at he7 hp7
        subst he7
        obtain ⟨W7, hW7⟩ : ∃ W7, w7.alloc (.cells #[.int .i64 M, .slice ra rn rc] 38) = W7 := ⟨_, rfl⟩
        have hX7 : BX W7 w7.heap.size M (.slice ra rn rc) L := by rw [← hW7]; exact BX.new hp7
        have hb7' : Below W6.heap.size W6 W7 := hb7.trans (by rw [← hW7]; exact (Below.mono (by go_grown) hb7.size))
        obtain ⟨P7, hP7⟩ : ∃ P7, w7.heap.size = P7 := ⟨_, rfl⟩
        rw [hP7] at hX7
        have HX7 := Lib.hid hX7
        have HP7 := Lib.hid hP7
        have HX5c := Lib.hid (HX5b.out.below hb7')
        have HX6b := Lib.hid (HX6.out.below hb7')
        have HB7 := Lib.hid (tr3 HB6.out hb7')
        have HW7 := Lib.hid hW7
        have HG := Lib.hid (goto_of (leap_nil (w := W7) sA 18 0 0 0))
        clear h7 hb7 hp7 hW7 hX7 hb7' hP7 HE3 HX5b HX6 HP6 HW6
        go_wp2_with fail
        rw [HW7.out, HP7.out]
        refine HG.out.mono ?_
        rintro e w8 ⟨rfl, hb8⟩
        have HB8 := Lib.hid hb8
        have HI := Lib.hid (ifzero_of (leap_nil (w := w8) sA 19 0 0 0))
        clear hb8 HG HP7 HW7
        go_wp2_with fail
        refine HI.out.mono ?_
        rintro e w9 ⟨rfl, hb9⟩
        have HB9 := Lib.hid (tr3 HB8.out hb9)
        have HEN := Lib.hid (end_nil w9)
        clear hb9 HI
        go_wp2_with fail
        refine HEN.out.mono ?_
        rintro e w10 ⟨rfl, hb10⟩
        obtain ⟨W10, hW10⟩ : ∃ W10, w10.alloc (.cells #[.int .i64 0, .slice none 0 0] 38) = W10 := ⟨_, rfl⟩
        have hbA : Below W7.heap.size W7 W10 := (tr3 HB9.out hb10).trans (by rw [← hW10]; exact (Below.mono (by go_grown) (tr3 HB9.out hb10).size))
        have HPA := Lib.hid (HX5c.out.below hbA)
        have HQA := Lib.hid (HX6b.out.below hbA)
        have HRA := Lib.hid (HX7.out.below hbA)
        have HBA2 := Lib.hid (tr3 HB7.out hbA)
        obtain ⟨p0, p1⟩ := HPA.out.cells
        obtain ⟨q0, q1⟩ := HQA.out.cells
        have HS1 := Lib.hid (same_v M pa qa pn qn pc qc L W10 HPA.out.p HQA.out.p)
        have HW10 := Lib.hid hW10
        have hcc : (cd == cd) = true := by simp
        clear hb10 hW10 hbA HEN HX5c HX6b HX7
        go_upto_region 20 with (fail)
        rw [HW10.out]
        clear HW10
        go_wp2_with fail
        refine HS1.out.mono ?_
        rintro e wB ⟨rfl, hbB⟩
        have HQB := Lib.hid (HQA.out.below hbB)
        have HRB := Lib.hid (HRA.out.below hbB)
        have HBB := Lib.hid (tr3 HBA2.out hbB)
        obtain ⟨r0, r1⟩ := HRB.out.cells
        obtain ⟨s0, s1⟩ := HQB.out.cells
        have HS2 := Lib.hid (same_v M ra qa rn qn rc qc L wB HRB.out.p HQB.out.p)
        clear p0 p1 q0 q1 hbB HS1
        go_wp2_with fail
        refine HS2.out.mono ?_
        rintro e wC' ⟨rfl, hbC⟩
        have HBC := Lib.hid (tr3 HBB.out hbC)
        have HFN := Lib.hid (func_nil wC')
        have HAD := Lib.hid (add_nil (w := wC') (.slice none 0 0))
        have HLN := Lib.hid (label_nil (w := wC') sA)
        clear r0 r1 s0 s1 hbC HS2
        go_wp2_with fail
        refine HFN.out.mono ?_
        rintro e wD ⟨rfl, rfl⟩
        go_wp2_with fail
        refine HAD.out.mono ?_
        rintro e wD ⟨rfl, rfl⟩
        go_wp2_with fail
        refine HLN.out.mono ?_
        rintro e wD ⟨rfl, rfl⟩
        go_wp2_with fail
        go_ret
        exact ⟨rfl, (HB2.out.trans (HBM.out.bel.mono HB2.out.size)).trans (HBC.out.mono ((HB2.out.trans (HBM.out.bel.mono HB2.out.size)).size))⟩
theorem walk (a0 : Int) (a1 : Option Addr) (n1 c1 : Nat) (L1 : List bd.St) (w : World) (w0 : (Lit.int .i64 a0).wf = true) (w1 : RV 7 bd.enO w (.slice a1 n1 c1) L1) (u1 : ∀ o ∈ L1, o.s.size ≤ maxLen) :
    Calls Try.prog 3 #[.int .i64 a0, .slice a1 n1 c1] w fun e w' => e = .returned (.bool true) ∧ Below w.heap.size w w' := walk_in a0 a1 n1 c1 L1 w w1 u1
end Go.Proofs.Ytdneblbaofhehaa.buildDoes
