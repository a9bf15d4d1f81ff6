/- Frames of any plan (layers 16, 25). -/
import Derived.Test.YtbmndjedgedbdaaFrW
namespace Go.Proofs.Ytbmndjedgedbdaa.ct
open Go.ChangeShapes Go.WideShapes Go.ChangeAt Go.RowKit
open Go.Proofs.Ytbmndjedgedbdaa.ar
open Go.Proofs.Ytbmndjedgedbdaa.fr (TAt LAt fcs as_keep j_same t_cell l_set l_cell as_resp)
attribute [local go_sem ↓] Go.wp_at_zero Go.wp_at_succ
set_option linter.unusedVariables false
set_option linter.unusedSimpArgs false
set_option maxHeartbeats 1000000 in
set_option maxRecDepth 20000 in
theorem fill_pp2 (S g A M : Nat) (xs : List Int) (hv : Value) (n : Int) (w0 w : World) (h : StoreH w S g xs hv) (hB : Below w0.heap.size w0 w) (hg0 : w0.heap.size ≤ g) (hA : A ≤ 4398046511104) (hM : M ≤ 4398046511104) (hl : xs.length ≤ 1048576) :
    Calls Try.prog 59 #[.pointer (some ⟨S, 0, none⟩), .int .i64 A, .int .i64 M, .int .i64 n] w fun e w' => e = .returned (.tuple #[]) ∧ ∃ k, StoreH w' S g (fl xs A n k) hv ∧ Keep g w w' ∧ Below w0.heap.size w0 w' ∧ (∀ j : Nat, A ≤ j → j < xs.length → (j < A + k ↔ (j : Int) < ((A : Nat) : Int) + ((M : Int)))) := by
  have hA0 : (0 : Int) ≤ A := by omega
  have hM0 : (0 : Int) ≤ M := by omega
  have hdA : decide ((A : Int) < 0) = false := by simp
  go_enter Try.func59, Try.ntmps59
  go_wp2_with fail
  go_loopw [8] (fun i wr => ∃ k : Nat, i = .int .i64 ((A + k : Nat) : Int) ∧ k ≤ 1048576 ∧ (k = 0 ∨ (k : Int) ≤ (M : Int)) ∧ StoreH wr S g (fl xs A n k) hv ∧ Keep g w wr ∧ Below w0.heap.size w0 wr) (fun i _ => A + 1048577 - (intOf i).toNat)
  case atStart => exact ⟨0, by first | rfl | (simp; done), by omega, .inl rfl, h, Keep.refl g w, hB⟩
  case round =>
    clear h hB
    obtain ⟨k, rfl, hk3, hkM, h, hkp, hbb⟩ := hrel
    have hlen : (fl xs A n k).length = xs.length := fl_len xs A n k
    by_cases hin : A + k < xs.length
    · have hi1 : ((A + k : Nat) : Int) < (xs.length : Int) := by omega
      by_cases hm : (k : Int) < (M : Int)
      · obtain ⟨s0, s1, hc, hf, _, _, _⟩ := h.facts
        have cc := hc (A + k) (by rw [hlen]; exact hin)
        have ff := hf (A + k)
        rw [hlen] at s0
        have hm2 : ((A + k : Nat) : Int) - ((A : Nat) : Int) < (M : Int) := by omega
        have hH := Lib.hid h
        have hS := size_h S g _ hv wr h
        rw [hlen] at hS
        generalize xs.length = L at *
        clear hc hf h
        go_wp2_with (first | (go_at_call 68; refine hS.mono ?_; rintro e wx ⟨rfl, rfl⟩))
        go_roundw
        case rel => exact ⟨k + 1, by go_num, by omega, .inr (by omega), hH.out.set _ _, hkp.trans (Keep.set rfl), hbb.setCell hg0 _⟩
        case measure => simp [intOf]; omega
      · have hm2 : ¬ ((A + k : Nat) : Int) - ((A : Nat) : Int) < (M : Int) := by omega
        have hH := Lib.hid h
        have hS := size_h S g _ hv wr h
        rw [hlen] at hS
        have HL := Lib.hid (rfl : xs.length = xs.length)
        clear h
        go_wp2_with (first | (go_at_call 68; refine hS.mono ?_; rintro e wx ⟨rfl, rfl⟩))
        go_end0
        exact ⟨rfl, k, hH.out, hkp, hbb, fun j hj hjl => by omega⟩
    · have hi1 : ¬ ((A + k : Nat) : Int) < (xs.length : Int) := by omega
      have hH := Lib.hid h
      have hS := size_h S g _ hv wr h
      rw [hlen] at hS
      clear h
      go_wp2_with (first | (go_at_call 68; refine hS.mono ?_; rintro e wx ⟨rfl, rfl⟩))
      go_end0
      exact ⟨rfl, k, hH.out, hkp, hbb, fun j hj hjl => by omega⟩
theorem fill_j2 (S g A M : Nat) (xs : List Int) (n : Int) (w0 w : World) (h : J w0 w S g xs) (hAM : A + M ≤ xs.length) (hl : xs.length ≤ 1048576) :
    Calls Try.prog 59 #[.pointer (some ⟨S, 0, none⟩), .int .i64 A, .int .i64 M, .int .i64 n] w fun e w' => e = .returned (.tuple #[]) ∧ J w0 w' S g (fl xs A n M) ∧ Keep g w w' := by
  refine (fill_pp2 S g A M xs .nilFunc n w0 w h.1.h h.2.1 h.2.2 (by omega) (by omega) hl).mono ?_
  rintro e w' ⟨he, k, h1, h2, h3, h4⟩
  have e2 : fl xs A n k = fl xs A n M := by
    apply List.ext_getElem (by rw [fl_len, fl_len])
    intro j hj1 hj2
    rw [fl_len] at hj1
    have a1 := fl_get xs A n j hj1 k
    have a2 := fl_get xs A n j hj1 M
    have hk : (A ≤ j ∧ j < A + k) ↔ (A ≤ j ∧ j < A + M) := by
      constructor
      · rintro ⟨b1, b2⟩; exact ⟨b1, by have := (h4 j b1 hj1).1 b2; omega⟩
      · rintro ⟨b1, b2⟩; exact ⟨b1, (h4 j b1 hj1).2 (by omega)⟩
    rw [List.getD_eq_getElem?_getD, List.getElem?_eq_getElem (by rw [fl_len]; exact hj1)] at a1 a2
    simp only [Option.getD_some] at a1 a2
    rw [a1, a2]
    by_cases hc : A ≤ j ∧ j < A + M
    · rw [if_pos (hk.2 hc), if_pos hc]
    · rw [if_neg (fun e => hc (hk.1 e)), if_neg hc]
  rw [e2] at h1
  exact ⟨he, ⟨h1, h3, h.2.2⟩, h2⟩
/-- A table of n frames, its words, its numbers. -/
structure TS (a c d : Int) (w0 w : World) (Sx : Nat → Prop) (T S g A L n : Nat) (xs : List Int) (ps : List Value) (p : Int) (hv bv : Value) (hs : List Bool) (bk : List Int) : Prop where
  j : J w0 w S g xs
  t : TAt w T a (n : Int) c d S A L n
  l : LAt w L ps
  a : AS Sx w0.heap.size A w (n : Int) (hs.length : Int) p hv bv hv bv hs bk
  pl : ps.length = n
  sT : Sx T
  sL : Sx L
  sS : Sx S
  sg : Sx g
  lg : L ≠ g
  lS : L ≠ S
  lT : L ≠ T
  tg : T ≠ g
  l0 : w0.heap.size ≤ L
  t0 : w0.heap.size ≤ T
theorem TS.below {a c d : Int} {w0 w w' : World} {Sx : Nat → Prop} {T S g A L n : Nat} {xs : List Int} {ps : List Value} {p : Int} {hv bv : Value} {hs : List Bool} {bk : List Int} (h : TS a c d w0 w Sx T S g A L n xs ps p hv bv hs bk) (hb : Below w.heap.size w w') : TS a c d w0 w' Sx T S g A L n xs ps p hv bv hs bk :=
  ⟨h.j.below' hb, (hb.block _ (lt_of_heap h.t)).trans h.t, (hb.block _ (lt_of_heap h.l)).trans h.l, h.a.below hb, h.pl, h.sT, h.sL, h.sS, h.sg, h.lg, h.lS, h.lT, h.tg, h.l0, h.t0⟩
set_option maxRecDepth 20000 in
set_option maxHeartbeats 2000000 in
theorem make_yes (pc : Int) (j : Nat) (hs' : List Bool) (bk' : List Int) (p' : Int) (a c d : Int) (w0 w : World) (Sx : Nat → Prop) (T S g A L n : Nat) (xs : List Int) (ps : List Value) (p : Int) (hv bv : Value) (hs : List Bool) (bk : List Int) (h : TS a c d w0 w Sx T S g A L n xs ps p hv bv hs bk) (hO : Hid (Okay a (n : Int) c d)) (F r : Nat) (hF0 : Hid (a * (4 + d) + ((j : Int) + 1 - 1) * (2 + (c + 1) * 4) = (F : Int))) (hr : Hid (2 + (c + 1) * 4 = (r : Int))) (hn : n ≤ 256) (hr1 : 1 ≤ r) (hx : xs.length ≤ 1048576) (hF : F + r ≤ xs.length) (hjn : j < n) (hf : FreeTo (n : Int) hs bk j hs' bk') (hl : hs.length ≤ 100000) (hk : bk.length ≤ 100000) (hl' : hs'.length ≤ 100000) (hj : j < hs'.length) (hp : (if p < ((hs'.set j true).count true : Nat) then (((hs'.set j true).count true : Nat) : Int) else p) = p') :
    Calls Try.prog 43 #[.pointer (some ⟨T, 0, none⟩), (.agg #[.int .i64 1, .int .i64 0, .int .i64 pc, .int .i64 0, .int .i64 0, .int .i64 0, .int .i64 0, .int .i64 0, .int .i64 0, .int .i64 0, .int .i64 0, .int .i64 0, .bool false, .bool false, .int .i64 0, .int .i64 0, .int .i64 0, .int .i64 0, .int .i64 0])] w fun e w' => ∃ hv' bv' q, e = .returned (.tuple #[.int .i64 ((j : Int) + 1), .bool true]) ∧ TS a c d w0 w' Sx T S g A L n ((fl xs F 0 r).set F 1) (ps.set j (.pointer (some ⟨q, 0, none⟩))) p' hv' bv' (hs'.set j true) bk' ∧ w'.heap[q]? = some (.cells (fcs pc) 51 (0, 0)) ∧ w.heap.size ≤ q ∧ (∀ k, Sx k → k ≠ L → k ≠ g → w'.heap[k]? = w.heap[k]?) ∧ w.heap.size ≤ w'.heap.size := by
  have H := Lib.hid h
  have hb0 : Below w.heap.size w (w.alloc (Obj.cells (fcs pc) 51)) := by go_grown
  have hA0 : AS (fun k => Sx k ∨ k = w.heap.size) w0.heap.size A (w.alloc (Obj.cells (fcs pc) 51)) (n : Int) (hs.length : Int) p hv bv hv bv hs bk := as_resp (h.a.below hb0) (fun k hk => by
    rcases hk with hk | rfl
    · exact (h.a.below hb0).sa k hk
    · refine ⟨by simp, ?_, ?_, ?_⟩
      · have := h.a.lt; omega
      · intro e; have := (h.a.rh.lt _ e).2; omega
      · intro e; have := (h.a.rb.lt _ e).2; omega)
  have C := Lib.hid (take_yes (w.alloc (Obj.cells (fcs pc) 51)) j hs' bk' p' hA0 hf hl hk hl' hj hp)
  have H1 := Lib.hid (h.below hb0)
  have Hq : Hid ((w.alloc (Obj.cells (fcs pc) 51)).heap[w.heap.size]? = some (.cells (fcs pc) 51 (0, 0))) := Lib.hid (heap_alloc_new _ _)
  have hpl := h.pl
  obtain ⟨t0, t1, t2, t3, t4, t5, t6⟩ := H1.out.t.cells
  have HFC : Hid (fcs pc = #[.int .i64 1, .int .i64 0, .int .i64 pc, .int .i64 0, .int .i64 0, .int .i64 0, .int .i64 0, .int .i64 0, .int .i64 0, .int .i64 0, .int .i64 0, .int .i64 0, .bool false, .bool false, .int .i64 0, .int .i64 0, .int .i64 0, .int .i64 0, .int .i64 0]) := Lib.hid rfl
  rw [HFC.out] at t0 t1 t2 t3 t4 t5 t6 C
  clear h hf hp hA0
  go_enter Try.func43, Try.ntmps43
  go_wp2_with fail
  refine C.out.mono ?_
  rintro e w1 ⟨hv', bv', rfl, hA, hb, hS⟩
  rw [← HFC.out] at hb hS
  have hb2 : Below w0.heap.size w w1 := ((H1.out.j.2.1.size |> fun _ => hb0).mono H.out.j.2.1.size).trans hb
  have hq1 := Lib.hid ((hS _ (.inr rfl)).trans Hq.out)
  have hT1 : TAt w1 T a (n : Int) c d S A L n := (hS T (.inl H.out.sT)).trans H1.out.t
  have hL1 : LAt w1 L ps := (hS L (.inl H.out.sL)).trans H1.out.l
  have hJ1 : J w0 w1 S g xs := j_same (Sx := fun k => Sx k ∨ k = w.heap.size) H1.out.j hS (.inl H.out.sS) (.inl H.out.sg) hb
  have hkS : Hid (∀ k, Sx k → w1.heap[k]? = w.heap[k]?) := Lib.hid (fun k hk => (hS k (.inl hk)).trans (hb0.block k (H.out.a.sa k hk).1))
  have hsz1 : w.heap.size < w1.heap.size := (lt_of_heap hq1.out)
  clear t0 t1 t2 t3 t4 t5 t6 C hS hb Hq H1 hb0
  obtain ⟨t0, t1, t2, t3, t4, t5, t6⟩ := hT1.cells
  obtain ⟨lc, lf⟩ := l_cell (j := j) hL1 (by omega)
  have HA1 := Lib.hid hA
  have e1 : (j : Int) + 1 - 1 = (j : Int) := by omega
  have e2 : (0 : Int) ≤ (j : Int) := by omega
  have e3 : (j : Int) < (n : Int) := by omega
  have e4 : (j : Int).toNat = j := by omega
  have hqL : Hid (w.heap.size ≠ L) := Lib.hid (by have := lt_of_heap H.out.l; omega)
  have hqg : Hid (w.heap.size ≠ g) := Lib.hid (by have := H.out.j.1.facts.2.2.2.2.2; omega)
  have hL2 := l_set (j := j) (.pointer (some ⟨w.heap.size, 0, none⟩)) hL1
  have hk2 : Keep L w1 (w1.setCell ⟨L, j, none⟩ (.pointer (some ⟨w.heap.size, 0, none⟩))) := Keep.set rfl
  have hA2 := Lib.hid (as_keep hA hk2 (.inl H.out.sL))
  have hJ2 : J w0 (w1.setCell ⟨L, j, none⟩ (.pointer (some ⟨w.heap.size, 0, none⟩))) S g xs := ⟨⟨hk2.block hJ1.1.1 (fun e => H.out.lS e.symm), hk2.block hJ1.1.2.1 (fun e => H.out.lg e.symm), hJ1.1.2.2⟩, hJ1.2.1.setCell H.out.l0 _, hJ1.2.2⟩
  have hT2 : TAt (w1.setCell ⟨L, j, none⟩ (.pointer (some ⟨w.heap.size, 0, none⟩))) T a (n : Int) c d S A L n := hk2.block hT1 (fun e => H.out.lT e.symm)
  have hq2 := Lib.hid (hk2.block hq1.out hqL.out)
  obtain ⟨d0, d1, d2, d3, d4, d5, d6⟩ := hT2.cells
  clear hA hT1 hL1 hJ1 hq1
  go_wp2_with fail
  obtain ⟨W, hW⟩ : ∃ W, w1.setCell ⟨L, j, none⟩ (.pointer (some ⟨w.heap.size, 0, none⟩)) = W := ⟨_, rfl⟩
  rw [hW] at hL2 hk2 hA2 hJ2 hT2 hq2 ⊢
  clear hW t0 t1 t2 t3 t4 t5 t6 d0 d1 d2 d3 d4 d5 d6 lc lf e1 e2 e3 e4
  refine (frame_of a (n : Int) c d ((j : Int) + 1) (F : Int) _ hO (by omega) (by omega) hF0).mono ?_
  rintro e w3 ⟨rfl, hb⟩
  have hL3 : LAt w3 L (ps.set j (.pointer (some ⟨w.heap.size, 0, none⟩))) := (hb.block _ (lt_of_heap hL2)).trans hL2
  have hT3 : TAt w3 T a (n : Int) c d S A L n := (hb.block _ (lt_of_heap hT2)).trans hT2
  have hA3 := Lib.hid (hA2.out.below hb)
  have hJ3 := hJ2.below' hb
  have hq3 := Lib.hid ((hb.block _ (lt_of_heap hq2.out)).trans hq2.out)
  have hKx : Hid (∀ k, Sx k → k ≠ L → w3.heap[k]? = w.heap[k]?) := Lib.hid (fun k hk hkL => (hb.block k (by have := (hA2.out.sa k (.inl hk)).1; exact this)).trans ((hk2.2 k (by have := (HA1.out.sa k (.inl hk)).1; exact this) hkL).trans (hkS.out k hk)))
  have hs3 : w.heap.size < w3.heap.size := lt_of_heap hq3.out
  clear hL2 hT2 hA2 hJ2 hq2 hk2 hkS HA1 hb hb2 W
  have HT3 := Lib.hid hT3
  obtain ⟨t0, t1, t2, t3, t4, t5, t6⟩ := hT3.cells
  clear hT3
  go_wp2_with fail
  have hdr := hJ3.below' (w' := w3.drew) (by go_grown)
  go_region_held3 (fun w' => w'.cell? ⟨T, 0, none⟩ = some (.int .i64 a) ∧ w'.cell? ⟨T, 1, none⟩ = some (.int .i64 (n : Int)) ∧ w'.cell? ⟨T, 2, none⟩ = some (.int .i64 c) ∧ w'.cell? ⟨T, 3, none⟩ = some (.int .i64 d) ∧ w'.cell? ⟨T, 4, none⟩ = some (.pointer (some ⟨S, 0, none⟩))) (first | (with_reducible assumption) | exact hct | exact hcs | exact ⟨t0, t1, t2, t3, t4⟩)
    (first | (go_at_call 50; refine (room_of a (n : Int) c d (r : Int) _ hO hr).mono ?_; rintro e w4 ⟨rfl, hb4⟩; have hJ4 := hdr.below' hb4; have hb5 : Below w3.heap.size w3 w4 := btn (by go_grown) hb4; have hT4 : TAt w4 T a (n : Int) c d S A L n := (hb5.block _ (lt_of_heap HT3.out)).trans HT3.out; have hcs : w4.cell? ⟨T, 0, none⟩ = some (.int .i64 a) ∧ w4.cell? ⟨T, 1, none⟩ = some (.int .i64 (n : Int)) ∧ w4.cell? ⟨T, 2, none⟩ = some (.int .i64 c) ∧ w4.cell? ⟨T, 3, none⟩ = some (.int .i64 d) ∧ w4.cell? ⟨T, 4, none⟩ = some (.pointer (some ⟨S, 0, none⟩)) := ⟨hT4.cells.1, hT4.cells.2.1, hT4.cells.2.2.1, hT4.cells.2.2.2.1, hT4.cells.2.2.2.2.1⟩) | (go_at_call 59; refine (fill_j2 S g F r xs 0 _ _ hJ4 hF hx).mono ?_; rintro e w6 ⟨rfl, hJ6, hk6⟩; have hT6 : TAt w6 T a (n : Int) c d S A L n := hk6.block hT4 H.out.tg; have hct : w6.cell? ⟨T, 0, none⟩ = some (.int .i64 a) ∧ w6.cell? ⟨T, 1, none⟩ = some (.int .i64 (n : Int)) ∧ w6.cell? ⟨T, 2, none⟩ = some (.int .i64 c) ∧ w6.cell? ⟨T, 3, none⟩ = some (.int .i64 d) ∧ w6.cell? ⟨T, 4, none⟩ = some (.pointer (some ⟨S, 0, none⟩)) := ⟨hT6.cells.1, hT6.cells.2.1, hT6.cells.2.2.1, hT6.cells.2.2.2.1, hT6.cells.2.2.2.2.1⟩))
  have hl6 : (fl xs F 0 r).length = xs.length := fl_len _ _ _ _
  have hL6 : LAt w6 L (ps.set j (.pointer (some ⟨w.heap.size, 0, none⟩))) := hk6.block ((hb5.block _ (lt_of_heap hL3)).trans hL3) H.out.lg
  have hq6 := Lib.hid (hk6.block ((hb5.block _ (lt_of_heap hq3.out)).trans hq3.out) hqg.out)
  have hA6 := Lib.hid (as_keep (hA3.out.below hb5) hk6 (.inl H.out.sg))
  have hKy : Hid (∀ k, Sx k → k ≠ L → k ≠ g → w6.heap[k]? = w.heap[k]?) := Lib.hid (fun k hk hkL hkg => (hk6.2 k (Nat.lt_of_lt_of_le (hA3.out.sa k (.inl hk)).1 hb5.size) hkg).trans ((hb5.block k (hA3.out.sa k (.inl hk)).1).trans (hKx.out k hk hkL)))
  have hs6 : w.heap.size < w6.heap.size := lt_of_heap hq6.out
  have HT6 := Lib.hid hT6
  clear t0 t1 t2 t3 t4 t5 t6 hcs hct hdr hJ4 hb4 hb5 hT4 hk6 hL3 hA3 hq3 hKx hT6
  obtain ⟨t0, t1, t2, t3, t4, t5, t6⟩ := HT6.out.cells
  go_wp2_with fail
  refine (fill_j2 S g F 1 _ 1 _ _ hJ6 (by rw [hl6]; omega) (by rw [hl6]; exact hx)).mono ?_
  rintro e w7 ⟨rfl, hJ7, hk7⟩
  have hA7 := as_resp (as_keep hA6.out hk7 (.inl H.out.sg)) (S' := Sx) (fun k hk => (as_keep hA6.out hk7 (.inl H.out.sg)).sa k (.inl hk))
  have FIN : Hid (TS a c d w0 w7 Sx T S g A L n ((fl xs F 0 r).set F 1) (ps.set j (.pointer (some ⟨w.heap.size, 0, none⟩))) p' hv' bv' (hs'.set j true) bk') := Lib.hid ⟨hJ7, hk7.block HT6.out H.out.tg, hk7.block hL6 H.out.lg, hA7, by rw [List.length_set]; exact hpl, H.out.sT, H.out.sL, H.out.sS, H.out.sg, H.out.lg, H.out.lS, H.out.lT, H.out.tg, H.out.l0, H.out.t0⟩
  have FQ := Lib.hid (hk7.block hq6.out hqg.out)
  have FK : Hid (∀ k, Sx k → k ≠ L → k ≠ g → w7.heap[k]? = w.heap[k]?) := Lib.hid (fun k hk hkL hkg => (hk7.2 k ((hA6.out.sa k (.inl hk)).1) hkg).trans (hKy.out k hk hkL hkg))
  have hs7 : w.heap.size ≤ w7.heap.size := Nat.le_trans (Nat.le_of_lt hs6) hk7.1
  clear hJ7 hk7 hA7 t0 t1 t2 t3 t4 t5 t6 hJ6 hL6
  go_wp2_with fail
  go_ret2
  exact ⟨hv', bv', w.heap.size, rfl, FIN.out, FQ.out, Nat.le_refl _, FK.out, hs7⟩
set_option maxRecDepth 20000 in
theorem at_no (id : Int) (a c d : Int) (w0 w : World) (Sx : Nat → Prop) (T S g A L n : Nat) (xs : List Int) (ps : List Value) (p : Int) (hv bv : Value) (hs : List Bool) (bk : List Int) (h : TS a c d w0 w Sx T S g A L n xs ps p hv bv hs bk) (hl : hs.length ≤ 100000) (hn : heldB hs id = false) : Calls Try.prog 18 #[.pointer (some ⟨T, 0, none⟩), .int .i64 id] w fun e w' => e = .returned (.pointer none) ∧ w' = w := by
  have C := held_of w id h.a hl
  rw [hn] at C
  have C := Lib.hid C
  obtain ⟨t0, t1, t2, t3, t4, t5, t6⟩ := h.t.cells
  clear h hn
  go_enter Try.func18, Try.ntmps18
  go_wp2_with (first | (go_at_call 51; refine C.out.mono ?_; rintro e w1 ⟨rfl, rfl⟩))
  go_ret
  exact ⟨rfl, rfl⟩
set_option maxRecDepth 20000 in
theorem at_yes (a c d : Int) (k : Nat) (w0 w : World) (Sx : Nat → Prop) (T S g A L n : Nat) (xs : List Int) (ps : List Value) (p : Int) (hv bv : Value) (hs : List Bool) (bk : List Int) (h : TS a c d w0 w Sx T S g A L n xs ps p hv bv hs bk) (hl : hs.length ≤ 100000) (hn : heldB hs ((k : Int) + 1) = true) (hk : k < n) (hn6 : n ≤ 256) (q : Nat) (hv : Hid (ps[k]? = some (.pointer (some ⟨q, 0, none⟩)))) : Calls Try.prog 18 #[.pointer (some ⟨T, 0, none⟩), .int .i64 ((k : Int) + 1)] w fun e w' => e = .returned (.pointer (some ⟨q, 0, none⟩)) ∧ w' = w := by
  have C := held_of w ((k : Int) + 1) h.a hl
  rw [hn] at C
  have C := Lib.hid C
  obtain ⟨t0, t1, t2, t3, t4, t5, t6⟩ := h.t.cells
  have hpl := h.pl
  obtain ⟨lc, lf⟩ := l_cell (j := k) h.l (by omega)
  have hv' := hv.out
  rw [List.getElem?_eq_getElem (by omega)] at hv'
  simp only [Option.some.injEq] at hv'
  rw [hv'] at lc
  have e1 : (k : Int) + 1 - 1 = (k : Int) := by omega
  have e2 : (0 : Int) ≤ (k : Int) := by omega
  have e3 : (k : Int) < (n : Int) := by omega
  have e4 : (k : Int).toNat = k := by omega
  clear h hn hv' hv
  go_enter Try.func18, Try.ntmps18
  go_wp2_with (first | (go_at_call 51; refine C.out.mono ?_; rintro e w1 ⟨rfl, rfl⟩))
  go_ret
  exact ⟨rfl, rfl⟩
theorem tused_of (a c d : Int) (w0 w : World) (Sx : Nat → Prop) (T S g A L n : Nat) (xs : List Int) (ps : List Value) (p : Int) (hv bv : Value) (hs : List Bool) (bk : List Int) (h : TS a c d w0 w Sx T S g A L n xs ps p hv bv hs bk) (hl : hs.length ≤ 100000) : Calls Try.prog 35 #[.pointer (some ⟨T, 0, none⟩)] w fun e w' => e = .returned (.int .i64 (hs.count true : Nat)) ∧ Below w.heap.size w w' := by
  have C := Lib.hid (used_of Sx w0.heap.size A (n : Int) p hv bv hs bk w hl h.a)
  obtain ⟨t0, t1, t2, t3, t4, t5, t6⟩ := h.t.cells
  clear h
  go_enter Try.func35, Try.ntmps35
  go_wp2_with fail
  refine C.out.mono ?_
  rintro e w1 ⟨rfl, hb⟩
  clear t0 t1 t2 t3 t4 t5 t6
  go_wp2_with fail
  go_ret
  exact ⟨rfl, hb⟩
end Go.Proofs.Ytbmndjedgedbdaa.ct
