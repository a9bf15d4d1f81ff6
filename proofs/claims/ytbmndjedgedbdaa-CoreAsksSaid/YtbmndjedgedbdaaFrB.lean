/- A table of frames: Make, At, Used, Peak (layer 16). -/
import Derived.Test.YtbmndjedgedbdaaFrA
namespace Go.Proofs.Ytbmndjedgedbdaa.fr
open Go.ChangeShapes Go.WideShapes Go.ChangeAt Go.RowKit
open Go.Proofs.Ytbmndjedgedbdaa.ar
attribute [local go_sem ↓] Go.wp_at_zero Go.wp_at_succ
set_option linter.unusedVariables false
set_option linter.unusedSimpArgs false
theorem as_keep {Sx : Nat → Prop} {B A g : Nat} {w w' : World} {m f p : Int} {oh ob hv bv : Value} {hs : List Bool} {bk : List Int} (h : AS Sx B A w m f p oh ob hv bv hs bk) (hk : Keep g w w') (hg : Sx g) : AS Sx B A w' m f p oh ob hv bv hs bk := by
  have hS := h.sa g hg
  exact ⟨(hk.2 A h.lt (fun e => hS.2.1 e.symm)).trans h.obj, row_keep h.rh fun k e => hk.2 k (h.rh.lt k e).2 (fun e2 => hS.2.2.1 (e2 ▸ e)), row_keep h.rb fun k e => hk.2 k (h.rb.lt k e).2 (fun e2 => hS.2.2.2 (e2 ▸ e)), h.h1, h.h2, h.h3, h.base, fun k e => ⟨Nat.lt_of_lt_of_le (h.sa k e).1 hk.1, (h.sa k e).2⟩⟩
theorem j_same {w0 w w' : World} {S g : Nat} {xs : List Int} {Sx : Nat → Prop} (h : J w0 w S g xs) (hs : Same Sx w w') (hS : Sx S) (hg : Sx g) (hb : Below w0.heap.size w w') : J w0 w' S g xs :=
  ⟨⟨(hs S hS).trans h.1.1, (hs g hg).trans h.1.2.1, h.1.2.2⟩, h.2.1.trans hb, h.2.2⟩
theorem t_cell {w w' : World} {B i : Nat} {v : Value} (h : w'.heap[B]? = w.heap[B]?) (hc : w.cell? ⟨B, i, none⟩ = some v) : w'.cell? ⟨B, i, none⟩ = some v := (cell_heap h).trans hc
theorem l_set {w : World} {L j : Nat} {ps : List Value} (v : Value) (h : LAt w L ps) : LAt (w.setCell ⟨L, j, none⟩ v) L (ps.set j v) := by
  have := set_obj (i := j) v h
  unfold LAt
  rw [this]
  simp
theorem l_cell {w : World} {L j : Nat} {ps : List Value} (h : LAt w L ps) (hj : j < ps.length) : w.cell? ⟨L, j, none⟩ = some (ps[j]) ∧ w.frozen? ⟨L, j, none⟩ = false := by
  unfold LAt at h
  simp [World.cell?, World.frozen?, h, hj]
def fcs (pc : Int) : Array Value := #[.int .i64 1, .int .i64 0, .int .i64 pc, .int .i64 0, .int .i64 0, .int .i64 0, .int .i64 0, .int .i64 0, .int .i64 0, .int .i64 0, .int .i64 0, .int .i64 0, .bool false, .bool false, .int .i64 0, .int .i64 0, .int .i64 0, .int .i64 0, .int .i64 0]
/-- A table of n frames, its words, its numbers. -/
structure TS (w0 w : World) (Sx : Nat → Prop) (T S g A L n : Nat) (xs : List Int) (ps : List Value) (p : Int) (hv bv : Value) (hs : List Bool) (bk : List Int) : Prop where
  j : J w0 w S g xs
  t : TAt w T 1 (n : Int) 2 3 S A L n
  l : LAt w L ps
  a : AS Sx w0.heap.size A w (n : Int) (hs.length : Int) p hv bv hv bv hs bk
  pl : ps.length = n
  sT : Sx T
  sL : Sx L
  sS : Sx S
  sg : Sx g
  lg : L ≠ g
  lS : L ≠ S
  lT : L ≠ T
  tg : T ≠ g
  l0 : w0.heap.size ≤ L
  t0 : w0.heap.size ≤ T
theorem TS.below {w0 w w' : World} {Sx : Nat → Prop} {T S g A L n : Nat} {xs : List Int} {ps : List Value} {p : Int} {hv bv : Value} {hs : List Bool} {bk : List Int} (h : TS w0 w Sx T S g A L n xs ps p hv bv hs bk) (hb : Below w.heap.size w w') : TS w0 w' Sx T S g A L n xs ps p hv bv hs bk :=
  ⟨h.j.below' hb, (hb.block _ (lt_of_heap h.t)).trans h.t, (hb.block _ (lt_of_heap h.l)).trans h.l, h.a.below hb, h.pl, h.sT, h.sL, h.sS, h.sg, h.lg, h.lS, h.lT, h.tg, h.l0, h.t0⟩
set_option maxRecDepth 20000 in
set_option maxHeartbeats 2000000 in
theorem make_yes (pc : Int) (j : Nat) (hs' : List Bool) (bk' : List Int) (p' : Int) (w0 w : World) (Sx : Nat → Prop) (T S g A L n : Nat) (xs : List Int) (ps : List Value) (p : Int) (hv bv : Value) (hs : List Bool) (bk : List Int) (h : TS w0 w Sx T S g A L n xs ps p hv bv hs bk) (hn : n ≤ 6) (hx : xs.length ≤ 300) (hF : 7 + 14 * j + 14 ≤ xs.length) (hjn : j < n) (hf : FreeTo (n : Int) hs bk j hs' bk') (hl : hs.length ≤ 100000) (hk : bk.length ≤ 100000) (hl' : hs'.length ≤ 100000) (hj : j < hs'.length) (hp : (if p < ((hs'.set j true).count true : Nat) then (((hs'.set j true).count true : Nat) : Int) else p) = p') :
    Calls Try.prog 43 #[.pointer (some ⟨T, 0, none⟩), (.agg #[.int .i64 1, .int .i64 0, .int .i64 pc, .int .i64 0, .int .i64 0, .int .i64 0, .int .i64 0, .int .i64 0, .int .i64 0, .int .i64 0, .int .i64 0, .int .i64 0, .bool false, .bool false, .int .i64 0, .int .i64 0, .int .i64 0, .int .i64 0, .int .i64 0])] w fun e w' => ∃ hv' bv' q, e = .returned (.tuple #[.int .i64 ((j : Int) + 1), .bool true]) ∧ TS w0 w' Sx T S g A L n ((fl xs (7 + 14 * j) 0 14).set (7 + 14 * j) 1) (ps.set j (.pointer (some ⟨q, 0, none⟩))) p' hv' bv' (hs'.set j true) bk' ∧ w'.heap[q]? = some (.cells (fcs pc) 51 (0, 0)) ∧ w.heap.size ≤ q ∧ (∀ k, Sx k → k ≠ L → k ≠ g → w'.heap[k]? = w.heap[k]?) ∧ w.heap.size ≤ w'.heap.size := by
  have H := Lib.hid h
  have hb0 : Below w.heap.size w (w.alloc (Obj.cells (fcs pc) 51)) := by go_grown
  have hA0 : AS (fun k => Sx k ∨ k = w.heap.size) w0.heap.size A (w.alloc (Obj.cells (fcs pc) 51)) (n : Int) (hs.length : Int) p hv bv hv bv hs bk := as_resp (h.a.below hb0) (fun k hk => by
    rcases hk with hk | rfl
    · exact (h.a.below hb0).sa k hk
    · refine ⟨by simp, ?_, ?_, ?_⟩
      · have := h.a.lt; omega
      · intro e; have := (h.a.rh.lt _ e).2; omega
      · intro e; have := (h.a.rb.lt _ e).2; omega)
  have C := Lib.hid (take_yes (w.alloc (Obj.cells (fcs pc) 51)) j hs' bk' p' hA0 hf hl hk hl' hj hp)
  have H1 := Lib.hid (h.below hb0)
  have Hq : Hid ((w.alloc (Obj.cells (fcs pc) 51)).heap[w.heap.size]? = some (.cells (fcs pc) 51 (0, 0))) := Lib.hid (heap_alloc_new _ _)
  have hpl := h.pl
  obtain ⟨t0, t1, t2, t3, t4, t5, t6⟩ := H1.out.t.cells
  have HFC : Hid (fcs pc = #[.int .i64 1, .int .i64 0, .int .i64 pc, .int .i64 0, .int .i64 0, .int .i64 0, .int .i64 0, .int .i64 0, .int .i64 0, .int .i64 0, .int .i64 0, .int .i64 0, .bool false, .bool false, .int .i64 0, .int .i64 0, .int .i64 0, .int .i64 0, .int .i64 0]) := Lib.hid rfl
  rw [HFC.out] at t0 t1 t2 t3 t4 t5 t6 C
  clear h hf hp hA0
  go_enter Try.func43, Try.ntmps43
  go_wp2_with fail
  refine C.out.mono ?_
  rintro e w1 ⟨hv', bv', rfl, hA, hb, hS⟩
  rw [← HFC.out] at hb hS
  have hb2 : Below w0.heap.size w w1 := ((H1.out.j.2.1.size |> fun _ => hb0).mono H.out.j.2.1.size).trans hb
  have hq1 := Lib.hid ((hS _ (.inr rfl)).trans Hq.out)
  have hT1 : TAt w1 T 1 (n : Int) 2 3 S A L n := (hS T (.inl H.out.sT)).trans H1.out.t
  have hL1 : LAt w1 L ps := (hS L (.inl H.out.sL)).trans H1.out.l
  have hJ1 : J w0 w1 S g xs := j_same (Sx := fun k => Sx k ∨ k = w.heap.size) H1.out.j hS (.inl H.out.sS) (.inl H.out.sg) hb
  have hkS : Hid (∀ k, Sx k → w1.heap[k]? = w.heap[k]?) := Lib.hid (fun k hk => (hS k (.inl hk)).trans (hb0.block k (H.out.a.sa k hk).1))
  have hsz1 : w.heap.size < w1.heap.size := (lt_of_heap hq1.out)
  clear t0 t1 t2 t3 t4 t5 t6 C hS hb Hq H1 hb0
  obtain ⟨t0, t1, t2, t3, t4, t5, t6⟩ := hT1.cells
  obtain ⟨lc, lf⟩ := l_cell (j := j) hL1 (by omega)
  have HA1 := Lib.hid hA
  have e1 : (j : Int) + 1 - 1 = (j : Int) := by omega
  have e2 : (0 : Int) ≤ (j : Int) := by omega
  have e3 : (j : Int) < (n : Int) := by omega
  have e4 : (j : Int).toNat = j := by omega
  have hqL : Hid (w.heap.size ≠ L) := Lib.hid (by have := lt_of_heap H.out.l; omega)
  have hqg : Hid (w.heap.size ≠ g) := Lib.hid (by have := H.out.j.1.facts.2.2.2.2.2; omega)
  have hL2 := l_set (j := j) (.pointer (some ⟨w.heap.size, 0, none⟩)) hL1
  have hk2 : Keep L w1 (w1.setCell ⟨L, j, none⟩ (.pointer (some ⟨w.heap.size, 0, none⟩))) := Keep.set rfl
  have hA2 := Lib.hid (as_keep hA hk2 (.inl H.out.sL))
  have hJ2 : J w0 (w1.setCell ⟨L, j, none⟩ (.pointer (some ⟨w.heap.size, 0, none⟩))) S g xs := ⟨⟨hk2.block hJ1.1.1 (fun e => H.out.lS e.symm), hk2.block hJ1.1.2.1 (fun e => H.out.lg e.symm), hJ1.1.2.2⟩, hJ1.2.1.setCell H.out.l0 _, hJ1.2.2⟩
  have hT2 : TAt (w1.setCell ⟨L, j, none⟩ (.pointer (some ⟨w.heap.size, 0, none⟩))) T 1 (n : Int) 2 3 S A L n := hk2.block hT1 (fun e => H.out.lT e.symm)
  have hq2 := Lib.hid (hk2.block hq1.out hqL.out)
  obtain ⟨d0, d1, d2, d3, d4, d5, d6⟩ := hT2.cells
  clear hA hT1 hL1 hJ1 hq1
  go_wp2_with fail
  obtain ⟨W, hW⟩ : ∃ W, w1.setCell ⟨L, j, none⟩ (.pointer (some ⟨w.heap.size, 0, none⟩)) = W := ⟨_, rfl⟩
  rw [hW] at hL2 hk2 hA2 hJ2 hT2 hq2 ⊢
  clear hW t0 t1 t2 t3 t4 t5 t6 d0 d1 d2 d3 d4 d5 d6 lc lf e1 e2 e3 e4
  refine (frame_of 1 (n : Int) 2 3 ((j : Int) + 1) ((7 + 14 * j : Nat) : Int) _ (Lib.hid (by unfold Okay; omega)) (by omega) (by omega) (Lib.hid (by omega))).mono ?_
  rintro e w3 ⟨rfl, hb⟩
  have hL3 : LAt w3 L (ps.set j (.pointer (some ⟨w.heap.size, 0, none⟩))) := (hb.block _ (lt_of_heap hL2)).trans hL2
  have hT3 : TAt w3 T 1 (n : Int) 2 3 S A L n := (hb.block _ (lt_of_heap hT2)).trans hT2
  have hA3 := Lib.hid (hA2.out.below hb)
  have hJ3 := hJ2.below' hb
  have hq3 := Lib.hid ((hb.block _ (lt_of_heap hq2.out)).trans hq2.out)
  have hKx : Hid (∀ k, Sx k → k ≠ L → w3.heap[k]? = w.heap[k]?) := Lib.hid (fun k hk hkL => (hb.block k (by have := (hA2.out.sa k (.inl hk)).1; exact this)).trans ((hk2.2 k (by have := (HA1.out.sa k (.inl hk)).1; exact this) hkL).trans (hkS.out k hk)))
  have hs3 : w.heap.size < w3.heap.size := lt_of_heap hq3.out
  clear hL2 hT2 hA2 hJ2 hq2 hk2 hkS HA1 hb hb2 W
  have HT3 := Lib.hid hT3
  obtain ⟨t0, t1, t2, t3, t4, t5, t6⟩ := hT3.cells
  clear hT3
  go_wp2_with fail
  have hdr := hJ3.below' (w' := w3.drew) (by go_grown)
  go_region_held3 (fun w' => w'.cell? ⟨T, 0, none⟩ = some (.int .i64 1) ∧ w'.cell? ⟨T, 1, none⟩ = some (.int .i64 (n : Int)) ∧ w'.cell? ⟨T, 2, none⟩ = some (.int .i64 2) ∧ w'.cell? ⟨T, 3, none⟩ = some (.int .i64 3) ∧ w'.cell? ⟨T, 4, none⟩ = some (.pointer (some ⟨S, 0, none⟩))) (first | (with_reducible assumption) | exact hct | exact hcs | exact ⟨t0, t1, t2, t3, t4⟩)
    (first | (go_at_call 50; refine (room_of 1 (n : Int) 2 3 ((14 : Nat) : Int) _ (Lib.hid (by unfold Okay; omega)) (Lib.hid (by omega))).mono ?_; rintro e w4 ⟨rfl, hb4⟩; have hJ4 := hdr.below' hb4; have hb5 : Below w3.heap.size w3 w4 := btn (by go_grown) hb4; have hT4 : TAt w4 T 1 (n : Int) 2 3 S A L n := (hb5.block _ (lt_of_heap HT3.out)).trans HT3.out; have hcs : w4.cell? ⟨T, 0, none⟩ = some (.int .i64 1) ∧ w4.cell? ⟨T, 1, none⟩ = some (.int .i64 (n : Int)) ∧ w4.cell? ⟨T, 2, none⟩ = some (.int .i64 2) ∧ w4.cell? ⟨T, 3, none⟩ = some (.int .i64 3) ∧ w4.cell? ⟨T, 4, none⟩ = some (.pointer (some ⟨S, 0, none⟩)) := ⟨hT4.cells.1, hT4.cells.2.1, hT4.cells.2.2.1, hT4.cells.2.2.2.1, hT4.cells.2.2.2.2.1⟩) | (go_at_call 59; refine (fill_j S g (7 + 14 * j) 14 xs 0 _ _ hJ4 hF hx).mono ?_; rintro e w6 ⟨rfl, hJ6, hk6⟩; have hT6 : TAt w6 T 1 (n : Int) 2 3 S A L n := hk6.block hT4 H.out.tg; have hct : w6.cell? ⟨T, 0, none⟩ = some (.int .i64 1) ∧ w6.cell? ⟨T, 1, none⟩ = some (.int .i64 (n : Int)) ∧ w6.cell? ⟨T, 2, none⟩ = some (.int .i64 2) ∧ w6.cell? ⟨T, 3, none⟩ = some (.int .i64 3) ∧ w6.cell? ⟨T, 4, none⟩ = some (.pointer (some ⟨S, 0, none⟩)) := ⟨hT6.cells.1, hT6.cells.2.1, hT6.cells.2.2.1, hT6.cells.2.2.2.1, hT6.cells.2.2.2.2.1⟩))
  have hl6 : (fl xs (7 + 14 * j) 0 14).length = xs.length := fl_len _ _ _ _
  have hL6 : LAt w6 L (ps.set j (.pointer (some ⟨w.heap.size, 0, none⟩))) := hk6.block ((hb5.block _ (lt_of_heap hL3)).trans hL3) H.out.lg
  have hq6 := Lib.hid (hk6.block ((hb5.block _ (lt_of_heap hq3.out)).trans hq3.out) hqg.out)
  have hA6 := Lib.hid (as_keep (hA3.out.below hb5) hk6 (.inl H.out.sg))
  have hKy : Hid (∀ k, Sx k → k ≠ L → k ≠ g → w6.heap[k]? = w.heap[k]?) := Lib.hid (fun k hk hkL hkg => (hk6.2 k (Nat.lt_of_lt_of_le (hA3.out.sa k (.inl hk)).1 hb5.size) hkg).trans ((hb5.block k (hA3.out.sa k (.inl hk)).1).trans (hKx.out k hk hkL)))
  have hs6 : w.heap.size < w6.heap.size := lt_of_heap hq6.out
  have HT6 := Lib.hid hT6
  clear t0 t1 t2 t3 t4 t5 t6 hcs hct hdr hJ4 hb4 hb5 hT4 hk6 hL3 hA3 hq3 hKx hT6
  obtain ⟨t0, t1, t2, t3, t4, t5, t6⟩ := HT6.out.cells
  go_wp2_with fail
  refine (fill_j S g (7 + 14 * j) 1 _ 1 _ _ hJ6 (by rw [hl6]; omega) (by rw [hl6]; exact hx)).mono ?_
  rintro e w7 ⟨rfl, hJ7, hk7⟩
  have hA7 := as_resp (as_keep hA6.out hk7 (.inl H.out.sg)) (S' := Sx) (fun k hk => (as_keep hA6.out hk7 (.inl H.out.sg)).sa k (.inl hk))
  have FIN : Hid (TS w0 w7 Sx T S g A L n ((fl xs (7 + 14 * j) 0 14).set (7 + 14 * j) 1) (ps.set j (.pointer (some ⟨w.heap.size, 0, none⟩))) p' hv' bv' (hs'.set j true) bk') := Lib.hid ⟨hJ7, hk7.block HT6.out H.out.tg, hk7.block hL6 H.out.lg, hA7, by rw [List.length_set]; exact hpl, H.out.sT, H.out.sL, H.out.sS, H.out.sg, H.out.lg, H.out.lS, H.out.lT, H.out.tg, H.out.l0, H.out.t0⟩
  have FQ := Lib.hid (hk7.block hq6.out hqg.out)
  have FK : Hid (∀ k, Sx k → k ≠ L → k ≠ g → w7.heap[k]? = w.heap[k]?) := Lib.hid (fun k hk hkL hkg => (hk7.2 k ((hA6.out.sa k (.inl hk)).1) hkg).trans (hKy.out k hk hkL hkg))
  have hs7 : w.heap.size ≤ w7.heap.size := Nat.le_trans (Nat.le_of_lt hs6) hk7.1
  clear hJ7 hk7 hA7 t0 t1 t2 t3 t4 t5 t6 hJ6 hL6
  go_wp2_with fail
  go_ret2
  exact ⟨hv', bv', w.heap.size, rfl, FIN.out, FQ.out, Nat.le_refl _, FK.out, hs7⟩
set_option maxRecDepth 20000 in
set_option maxHeartbeats 2000000 in
theorem make_no (pc : Int) (w0 w : World) (Sx : Nat → Prop) (T S g A L n : Nat) (xs : List Int) (ps : List Value) (p : Int) (hv bv : Value) (hs : List Bool)  (h : TS w0 w Sx T S g A L n xs ps p hv bv hs []) (hfull : (hs.length : Int) = (n : Int)) :
    Calls Try.prog 43 #[.pointer (some ⟨T, 0, none⟩), (.agg #[.int .i64 1, .int .i64 0, .int .i64 pc, .int .i64 0, .int .i64 0, .int .i64 0, .int .i64 0, .int .i64 0, .int .i64 0, .int .i64 0, .int .i64 0, .int .i64 0, .bool false, .bool false, .int .i64 0, .int .i64 0, .int .i64 0, .int .i64 0, .int .i64 0])] w fun e w' => e = .returned (.tuple #[.int .i64 0, .bool false]) ∧ Below w.heap.size w w' := by
  have hb0 : Below w.heap.size w (w.alloc (Obj.cells (fcs pc) 51)) := by go_grown
  have hA := h.a.below hb0
  rw [hfull] at hA
  have C := Lib.hid (take_no (w.alloc (Obj.cells (fcs pc) 51)) hA)
  have HFC : Hid (fcs pc = #[.int .i64 1, .int .i64 0, .int .i64 pc, .int .i64 0, .int .i64 0, .int .i64 0, .int .i64 0, .int .i64 0, .int .i64 0, .int .i64 0, .int .i64 0, .int .i64 0, .bool false, .bool false, .int .i64 0, .int .i64 0, .int .i64 0, .int .i64 0, .int .i64 0]) := Lib.hid rfl
  obtain ⟨t0, t1, t2, t3, t4, t5, t6⟩ := (h.below hb0).t.cells
  rw [HFC.out] at t0 t1 t2 t3 t4 t5 t6 C hb0
  clear h hA
  go_enter Try.func43, Try.ntmps43
  go_wp2_with fail
  refine C.out.mono ?_
  rintro e w1 ⟨rfl, hA, hb⟩
  have hb2 : Below w.heap.size w w1 := btn hb0 (hb.mono hb0.size)
  clear t0 t1 t2 t3 t4 t5 t6 hA hb
  go_wp2_with fail
  go_ret2
  exact ⟨rfl, hb2⟩
theorem make_nil (pc : Int) (w : World) : Calls Try.prog 43 #[.pointer none, (.agg #[.int .i64 1, .int .i64 0, .int .i64 pc, .int .i64 0, .int .i64 0, .int .i64 0, .int .i64 0, .int .i64 0, .int .i64 0, .int .i64 0, .int .i64 0, .int .i64 0, .bool false, .bool false, .int .i64 0, .int .i64 0, .int .i64 0, .int .i64 0, .int .i64 0])] w fun e w' => e = .returned (.tuple #[.int .i64 0, .bool false]) ∧ Below w.heap.size w w' := by
  go_enter Try.func43, Try.ntmps43
  go_wp2_with fail
  go_ret2
  exact ⟨rfl, by go_grown⟩
theorem at_nil (id : Int) (w : World) : Calls Try.prog 18 #[.pointer none, .int .i64 id] w fun e w' => e = .returned (.pointer none) ∧ w' = w := by
  go_enter Try.func18, Try.ntmps18
  go_wp2_with fail
  go_ret
  exact ⟨rfl, rfl⟩
theorem used_nil (w : World) : Calls Try.prog 35 #[.pointer none] w fun e w' => e = .returned (.int .i64 0) ∧ w' = w := by
  go_enter Try.func35, Try.ntmps35
  go_wp2_with fail
  go_ret
  exact ⟨rfl, rfl⟩
set_option maxRecDepth 20000 in
theorem at_no (id : Int) (w0 w : World) (Sx : Nat → Prop) (T S g A L n : Nat) (xs : List Int) (ps : List Value) (p : Int) (hv bv : Value) (hs : List Bool) (bk : List Int) (h : TS w0 w Sx T S g A L n xs ps p hv bv hs bk) (hl : hs.length ≤ 100000) (hn : heldB hs id = false) : Calls Try.prog 18 #[.pointer (some ⟨T, 0, none⟩), .int .i64 id] w fun e w' => e = .returned (.pointer none) ∧ w' = w := by
  have C := held_of w id h.a hl
  rw [hn] at C
  have C := Lib.hid C
  obtain ⟨t0, t1, t2, t3, t4, t5, t6⟩ := h.t.cells
  clear h hn
  go_enter Try.func18, Try.ntmps18
  go_wp2_with (first | (go_at_call 51; refine C.out.mono ?_; rintro e w1 ⟨rfl, rfl⟩))
  go_ret
  exact ⟨rfl, rfl⟩
set_option maxRecDepth 20000 in
theorem at_yes (k : Nat) (w0 w : World) (Sx : Nat → Prop) (T S g A L n : Nat) (xs : List Int) (ps : List Value) (p : Int) (hv bv : Value) (hs : List Bool) (bk : List Int) (h : TS w0 w Sx T S g A L n xs ps p hv bv hs bk) (hl : hs.length ≤ 100000) (hn : heldB hs ((k : Int) + 1) = true) (hk : k < n) (hn6 : n ≤ 256) (q : Nat) (hv : Hid (ps[k]? = some (.pointer (some ⟨q, 0, none⟩)))) : Calls Try.prog 18 #[.pointer (some ⟨T, 0, none⟩), .int .i64 ((k : Int) + 1)] w fun e w' => e = .returned (.pointer (some ⟨q, 0, none⟩)) ∧ w' = w := by
  have C := held_of w ((k : Int) + 1) h.a hl
  rw [hn] at C
  have C := Lib.hid C
  obtain ⟨t0, t1, t2, t3, t4, t5, t6⟩ := h.t.cells
  have hpl := h.pl
  obtain ⟨lc, lf⟩ := l_cell (j := k) h.l (by omega)
  have hv' := hv.out
  rw [List.getElem?_eq_getElem (by omega)] at hv'
  simp only [Option.some.injEq] at hv'
  rw [hv'] at lc
  have e1 : (k : Int) + 1 - 1 = (k : Int) := by omega
  have e2 : (0 : Int) ≤ (k : Int) := by omega
  have e3 : (k : Int) < (n : Int) := by omega
  have e4 : (k : Int).toNat = k := by omega
  clear h hn hv' hv
  go_enter Try.func18, Try.ntmps18
  go_wp2_with (first | (go_at_call 51; refine C.out.mono ?_; rintro e w1 ⟨rfl, rfl⟩))
  go_ret
  exact ⟨rfl, rfl⟩
theorem tused_of (w0 w : World) (Sx : Nat → Prop) (T S g A L n : Nat) (xs : List Int) (ps : List Value) (p : Int) (hv bv : Value) (hs : List Bool) (bk : List Int) (h : TS w0 w Sx T S g A L n xs ps p hv bv hs bk) (hl : hs.length ≤ 100000) : Calls Try.prog 35 #[.pointer (some ⟨T, 0, none⟩)] w fun e w' => e = .returned (.int .i64 (hs.count true : Nat)) ∧ Below w.heap.size w w' := by
  have C := Lib.hid (used_of Sx w0.heap.size A (n : Int) p hv bv hs bk w hl h.a)
  obtain ⟨t0, t1, t2, t3, t4, t5, t6⟩ := h.t.cells
  clear h
  go_enter Try.func35, Try.ntmps35
  go_wp2_with fail
  refine C.out.mono ?_
  rintro e w1 ⟨rfl, hb⟩
  clear t0 t1 t2 t3 t4 t5 t6
  go_wp2_with fail
  go_ret
  exact ⟨rfl, hb⟩
end Go.Proofs.Ytbmndjedgedbdaa.fr
