/- Check: the first event that could not happen, and why (layer 34). -/
import Derived.Test.YtgbeghaojkhiaaaTrG
import Derived.Test.YtgbeghaojkhiaaaGrids
import Derived.Laws.MakeOwn
import Derived.Deep.RegionHeld3
namespace Go.Proofs.Ytgbeghaojkhiaaa.tr
open Go.ChangeShapes Go.WideShapes Go.ChangeAt Go.RowKit Go.Maps
open Go.Proofs.Ytgbeghaojkhiaaa.ro
set_option linter.unusedVariables false
set_option linter.unusedSimpArgs false
attribute [local go_sem ↓] Go.wp_at_zero Go.wp_at_succ
attribute [local go_sem] Oper.semAt_some
def enE (p : I4) : List Value := [.int .i64 p.1, .int .i64 p.2.1, .int .i64 p.2.2.1, .int .i64 p.2.2.2]
theorem recE : Rec 4 enE := ⟨by omega, fun _ => rfl, fun x u hu => by simp [enE] at hu; rcases hu with rfl | rfl | rfl | rfl <;> rfl⟩
theorem RV.fourE {w : World} {a : Option Addr} {n c : Nat} {E : List I4} (h : RV 4 enE w (.slice a n c) E) (i : Nat) {p q r s : Int} (hq : E[i]? = some (p, q, r, s)) :
    ∃ b o, a = some ⟨b, o, none⟩ ∧ b < w.heap.size ∧ w.cell? ⟨b, o + i * 4, none⟩ = some (.int .i64 p) ∧ w.cell? ⟨b, o + i * 4 + 1, none⟩ = some (.int .i64 q) ∧ w.cell? ⟨b, o + i * 4 + 2, none⟩ = some (.int .i64 r) ∧ w.cell? ⟨b, o + i * 4 + 3, none⟩ = some (.int .i64 s) := by
  obtain ⟨b, o, e, hl, hc⟩ := h.at i _ hq
  exact ⟨b, o, e, hl, hc 0 _ rfl, hc 1 _ rfl, hc 2 _ rfl, hc 3 _ rfl⟩
theorem stF_snoc (F : Int → Lp) (l : List I4) (e : I4) : stF F (l ++ [e]) = upd (stF F l) e := by simp [stF]
/-- what holds ahead of event k. -/
def CI (w0 : World) (Mb : Nat) (es : List I4) (k : Nat) (w : World) : Prop :=
  ∃ ρ xs, TM w0 w ρ Mb xs ∧ Cor xs (stF F0 (es.take k)) ∧ xs.length ≤ k ∧ (∀ (j : Nat) (x : LM), xs[j]? = some x → x.s.its.length ≤ k ∧ x.s.fin ≤ k) ∧ go (stF F0 (es.take k)) k (es.drop k) = chk es
theorem CI.below {w0 w w' : World} {Mb k : Nat} {es : List I4} (h : CI w0 Mb es k w) (hb : Below w.heap.size w w') : CI w0 Mb es k w' := by
  obtain ⟨ρ, xs, h1, h2⟩ := h
  exact ⟨_, xs, h1.below hb, h2⟩
theorem CI.b {w0 w : World} {Mb k : Nat} {es : List I4} (h : CI w0 Mb es k w) : Below w0.heap.size w0 w := by
  obtain ⟨ρ, xs, h1, h2⟩ := h
  exact h1.b
/-- the loop of the event is there. -/
def CJ (w0 : World) (Mb : Nat) (es : List I4) (k : Nat) (e : I4) (B : Nat) (w : World) : Prop :=
  ∃ (ρ : Ro) (xs : List LM) (j : Nat) (x : LM), TM w0 w ρ Mb xs ∧ Cor xs (stF F0 (es.take k)) ∧ xs.length ≤ k + 1 ∧ (∀ (j : Nat) (x : LM), xs[j]? = some x → x.s.its.length ≤ k ∧ x.s.fin ≤ k) ∧ xs[j]? = some x ∧ x.z = e.2.1 ∧ x.B = B
theorem CJ.below {w0 w w' : World} {Mb k B : Nat} {es : List I4} {e : I4} (h : CJ w0 Mb es k e B w) (hb : Below w.heap.size w w') : CJ w0 Mb es k e B w' := by
  obtain ⟨ρ, xs, j, x, h1, h2⟩ := h
  exact ⟨_, xs, j, x, h1.below hb, h2⟩
theorem CJ.b {w0 w : World} {Mb k B : Nat} {es : List I4} {e : I4} (h : CJ w0 Mb es k e B w) : Below w0.heap.size w0 w := by
  obtain ⟨ρ, xs, j, x, h1, h2⟩ := h
  exact h1.b
theorem CJ.check {w0 w : World} {Mb k B : Nat} {es : List I4} {e : I4} (h : CJ w0 Mb es k e B w) (hk : k ≤ 1000) : Calls Try.prog 22 #[.pointer (some ⟨B, 0, none⟩), .agg #[.int .i64 e.1, .int .i64 e.2.1, .int .i64 e.2.2.1, .int .i64 e.2.2.2]] w fun e' w' => e' = .returned (.int .i64 (ch (stF F0 (es.take k) e.2.1) e)) ∧ Below w.heap.size w w' := by
  obtain ⟨ρ, xs, j, x, h1, h2, h3, h4, h5, h6, rfl⟩ := h
  have := h4 j x h5
  exact ck_v (h1.fn j x h5) (by omega) e _ (by rw [h2.s j x h5, h6])
theorem CJ.take {w0 w : World} {Mb k B : Nat} {es : List I4} {e : I4} (h : CJ w0 Mb es k e B w) (hk : k ≤ 1000) (he : es[k]? = some e) (h0 : ch (stF F0 (es.take k) e.2.1) e = 0) (hg : go (stF F0 (es.take k)) k (es.drop k) = chk es) : Calls Try.prog 23 #[.pointer (some ⟨B, 0, none⟩), .agg #[.int .i64 e.1, .int .i64 e.2.1, .int .i64 e.2.2.1, .int .i64 e.2.2.2]] w fun e' w' => e' = .returned (.tuple #[]) ∧ Hid (CI w0 Mb es (k + 1) w') := by
  obtain ⟨ρ, xs, j, x, h1, h2, h3, h4, h5, h6, rfl⟩ := h
  have hx4 := h4 j x h5
  refine (tk_v h1 h5 (fun i y hy => by have := h4 i y hy; omega) (by omega) e (by rw [h2.s j x h5, h6]; exact h0)).mono ?_
  rintro e' w' ⟨rfl, ρ', y, hT, hz, hy⟩
  refine ⟨rfl, Lib.hid ⟨ρ', xs.set j y, hT.out, ?_, by simpa using h3, fun i u hu => ?_, ?_⟩⟩
  · rw [List.take_add_one, he]
    show Cor _ (stF F0 (es.take k ++ [e]))
    rw [stF_snoc]
    exact h2.set h5 hz e h6.symm hy
  · have hjl := (List.getElem?_eq_some_iff.1 h5).1
    by_cases e2 : i = j
    · subst e2
      rw [List.getElem?_set_self hjl] at hu
      cases hu
      have := tk_len x.s e
      rw [hy]
      omega
    · rw [List.getElem?_set_ne (fun h => e2 h.symm)] at hu
      have := h4 i u hu
      omega
  · rw [List.take_add_one, he]
    show go (stF F0 (es.take k ++ [e])) _ _ = _
    rw [stF_snoc, ← hg]
    have hd : es.drop k = e :: es.drop (k + 1) := by
      rw [List.drop_eq_getElem_cons (List.getElem?_eq_some_iff.1 he).1, (List.getElem?_eq_some_iff.1 he).2]
    rw [hd, go, if_pos h0]
/-- the loop is there, or it is none. -/
theorem CI.cases {w0 w : World} {Mb k : Nat} {es : List I4} (h : CI w0 Mb es k w) (e : I4) (hwf : (Lit.int .i64 e.2.1).wf = true) (hk : k ≤ 1000) :
    ∃ D n f, w.ownsMap Try.prog 3 ptE Mb n D ∧ Lz D f ∧ n ≤ k ∧ ((∃ B, f e.2.1 = some B ∧ CJ w0 Mb es k e B w) ∨ (f e.2.1 = none ∧ ∀ W B W', Below w.heap.size w W → w.heap.size ≤ B → W.heap[B]? = some (.cells #[.slice none 0 0, .int .i64 0, .bool false] 57 (0, 0)) → W'.ownsMap Try.prog 3 ptE Mb (n + 1) (D.put (kz e.2.1) (.lit (.int .i64 (B : Int)))) → W.grownBy W' (some Mb) → CJ w0 Mb es k e B W')) := by
  obtain ⟨ρ, xs, h1, h2, h3, h4, h5⟩ := h
  obtain ⟨D, hm, hL⟩ := h1.m
  refine ⟨D, xs.length, fB xs, hm, hL, h3, ?_⟩
  by_cases hx : ∃ (j : Nat) (x : LM), xs[j]? = some x ∧ x.z = e.2.1
  · obtain ⟨j, x, hx, hz⟩ := hx
    refine .inl ⟨x.B, by rw [← hz]; exact find_some h2 hx, ρ, xs, j, x, h1, h2, by omega, h4, hx, hz, rfl⟩
  · have hn : ∀ (j : Nat) (x : LM), xs[j]? = some x → x.z ≠ e.2.1 := fun j x hj hz => hx ⟨j, x, hj, hz⟩
    refine .inr ⟨find_none hn, fun W B W' hb hB ho hm' hg => ?_⟩
    obtain ⟨ρ', h'⟩ := h1.add (find_none hn) hb hB ho hL hm' hg
    refine ⟨ρ', _, xs.length, ⟨e.2.1, B, .slice none 0 0, [], lp0⟩, h', h2.add hn B _, by simp; omega, fun j x hj => ?_, by simp, rfl, rfl⟩
    by_cases e2 : j < xs.length
    · rw [List.getElem?_append_left e2] at hj
      exact h4 j x hj
    · rw [List.getElem?_append_right (by omega)] at hj
      rcases Nat.eq_zero_or_pos (j - xs.length) with h0 | h0
      · rw [h0] at hj; cases hj; simp [lp0]
      · rw [List.getElem?_eq_none (by simp; omega)] at hj; cases hj
theorem ptE_some (B : Nat) : ptE (.pointer (some ⟨B, 0, none⟩)) = some (.lit (.int .i64 (B : Int)), []) := rfl
set_option maxRecDepth 20000 in
set_option maxHeartbeats 2000000 in
theorem check_v (a : Option Addr) (n c : Nat) (es : List I4) (w : World) (h : RV 4 enE w (.slice a n c) es) (hn : n ≤ 1000) (hwf : ∀ x ∈ es, (Lit.int .i64 x.2.1).wf = true) :
    Calls Try.prog 7 #[.slice a n c] w fun e w' => e = .returned (.tuple #[.int .i64 ((chk es).1 : Int), .int .i64 (chk es).2]) ∧ Below w.heap.size w w' := by
  obtain ⟨hnl, hnc, hcm⟩ := h.len
  have HR := Lib.hid h
  have HN := Lib.hid hnl
  have HWF := Lib.hid hwf
  have hmm := @run_makeMap Try.prog
  clear h hnl hwf
  go_enter Try.func7, Try.ntmps7
  go_wp2_with fail
  have HI : Hid (CI w w.heap.size es 0 (w.alloc (.map #[] 0))) := Lib.hid (by
    have hb : Below w.heap.size w (w.alloc (.map #[] 0)) := by go_grown
    refine ⟨fun b => if b < w.heap.size then 0 else 2, [], ⟨fun k hk => if_pos hk, hb, ⟨.map [], World.ownsMap_made w Try.prog 3 ptE, Lz.empty⟩, if_neg (by omega), fun j x hx => by simp at hx⟩, Cor.nil, by simp, fun j x hx => by simp at hx, rfl⟩)
  obtain ⟨Mb, hMb⟩ : ∃ Mb, w.heap.size = Mb := ⟨_, rfl⟩
  rw [hMb] at HI ⊢
  have HMB := Lib.hid hMb
  clear hMb
  go_loopw [12] (fun x wr => ∃ k : Nat, k ≤ n ∧ x = .int .i64 (k : Int) ∧ Hid (CI w Mb es k wr)) (fun x _ => n - (intOf x).toNat)
  case atStart => exact ⟨0, Nat.zero_le _, by go_num, HI⟩
  case round =>
    obtain ⟨k, hk, rfl, HK⟩ := hrel
    by_cases hlt : k < n
    · obtain ⟨⟨k0, z, i0, s0⟩, hx⟩ : ∃ x, es[k]? = some x := ⟨es[k]'(by rw [← HN.out]; exact hlt), by simp⟩
      have HX := Lib.hid hx
      have HGO : Hid (go (stF F0 (es.take k)) k (es.drop k) = chk es) := Lib.hid (by obtain ⟨ρ, xs, _, _, _, _, h5⟩ := HK.out; exact h5)
      have HDR : Hid (es.drop k = (k0, z, i0, s0) :: es.drop (k + 1)) := Lib.hid (by rw [List.drop_eq_getElem_cons (List.getElem?_eq_some_iff.1 hx).1, (List.getElem?_eq_some_iff.1 hx).2])
      have HZ : Hid ((Lit.int .i64 z).wf = true) := Lib.hid (HWF.out _ (List.mem_of_getElem? hx))
      obtain ⟨cx, hcx⟩ : ∃ cx, ch (stF F0 (es.take k) z) (k0, z, i0, s0) = cx := ⟨_, rfl⟩
      have HCX := Lib.hid hcx
      obtain ⟨b, o, rfl, hbl, c0, c1, c2, c3⟩ := RV.fourE (HR.out.below (by have := HK.out.b; exact this)) k hx
      have d1 : (k : Int) < (n : Int) := by omega
      have hb1 : Below wr.heap.size wr (wr.alloc (.cells #[.int .i64 k0, .int .i64 z, .int .i64 i0, .int .i64 s0] 45)) := by go_grown
      obtain ⟨D, m, f, hm, hL, hmk, hcase⟩ := (HK.out.below hb1).cases (k0, z, i0, s0) HZ.out (by omega)
      have HM := Lib.hid hm
      have HLz := Lib.hid hL
      have HBX1 : Hid (∀ w', Below (wr.alloc (.cells #[.int .i64 k0, .int .i64 z, .int .i64 i0, .int .i64 s0] 45)).heap.size (wr.alloc (.cells #[.int .i64 k0, .int .i64 z, .int .i64 i0, .int .i64 s0] 45)) w' → w'.heap[wr.heap.size]? = some (.cells #[.int .i64 k0, .int .i64 z, .int .i64 i0, .int .i64 s0] 45 (0, 0))) := Lib.hid (fun w' hb => (hb.block wr.heap.size (by simp)).trans (heap_new _ _))
      clear hx hcx hb1 hm hL
      rcases hcase with ⟨B, hf, hJ⟩ | ⟨hf, hJ⟩
      · have HJ := Lib.hid hJ
        have HF := Lib.hid hf
        have BX : Hid (∀ w', Below (wr.alloc (.cells #[.int .i64 k0, .int .i64 z, .int .i64 i0, .int .i64 s0] 45)).heap.size (wr.alloc (.cells #[.int .i64 k0, .int .i64 z, .int .i64 i0, .int .i64 s0] 45)) w' → w'.cell? ⟨wr.heap.size, 0, none⟩ = some (.int .i64 k0) ∧ w'.cell? ⟨wr.heap.size, 1, none⟩ = some (.int .i64 z) ∧ w'.cell? ⟨wr.heap.size, 2, none⟩ = some (.int .i64 i0) ∧ w'.cell? ⟨wr.heap.size, 3, none⟩ = some (.int .i64 s0)) := Lib.hid (fun w' hb => ⟨cel (HBX1.out w' hb) 0, cel (HBX1.out w' hb) 1, cel (HBX1.out w' hb) 2, cel (HBX1.out w' hb) 3⟩)
        clear hJ hf
        go_upto_region 6 with (first | (at_lookup; refine wpList_look_pt _ rfl _ _ rfl Mb m D rfl HM.out z rfl HZ.out f HLz.out (.pointer (some ⟨B, 0, none⟩)) (by rw [HF.out]) ?_))
        obtain ⟨W, hW⟩ : ∃ W, wr.alloc (.cells #[.int .i64 k0, .int .i64 z, .int .i64 i0, .int .i64 s0] 45) = W := ⟨_, rfl⟩
        rw [hW] at HJ BX ⊢
        obtain ⟨d0, d1', d2, d3⟩ := BX.out W (Below.refl _ _)
        clear hW HM HBX1
        have HC : Hid (Calls Try.prog 22 #[.pointer (some ⟨B, 0, none⟩), .agg #[.int .i64 k0, .int .i64 z, .int .i64 i0, .int .i64 s0]] W fun e' w' => e' = .returned (.int .i64 cx) ∧ Below W.heap.size W w') := Lib.hid (by have := HJ.out.check (by omega); rw [HCX.out] at this; exact this)
        by_cases h0 : cx = 0
        · have HTk : Hid (∀ w', Below W.heap.size W w' → Calls Try.prog 23 #[.pointer (some ⟨B, 0, none⟩), .agg #[.int .i64 k0, .int .i64 z, .int .i64 i0, .int .i64 s0]] w' fun e' w'' => e' = .returned (.tuple #[]) ∧ Hid (CI w Mb es (k + 1) w'')) := Lib.hid (fun w' hb => (HJ.out.below hb).take (by omega) HX.out (by rw [HCX.out]; exact h0) HGO.out)
          subst h0
          go_wp2_with (first | (go_at_call 22; (with_reducible refine HC.out.mono ?_); rintro _ w8 ⟨rfl, hb8⟩; have HB8 := Lib.hid hb8; obtain ⟨d0, d1, d2, d3⟩ := BX.out w8 hb8; clear hb8) | (go_at_call 23; (with_reducible refine (HTk.out _ (by first | exact HB8.out | (repeat (first | exact HB8.out | apply ghb | apply ghd)))).mono ?_); rintro _ w9 ⟨rfl, HCI⟩))
          go_roundw
          case rel => exact ⟨k + 1, by omega, by go_num, HCI⟩
          case measure => simp [intOf]; omega
        · have h0b := bF h0
          have h0d := dF h0
          have h0n := nF h0
          have HRS : Hid (chk es = (k, cx)) := Lib.hid (by rw [← HGO.out, HDR.out, go, if_neg (by rw [HCX.out]; exact h0), HCX.out])
          have HBL : Hid (Below w.heap.size w W) := Lib.hid HJ.out.b
          go_wp2_with (first | (go_at_call 22; (with_reducible refine HC.out.mono ?_); rintro _ w8 ⟨rfl, hb8⟩; have HB8 := Lib.hid hb8; clear hb8))
          go_ret2
          exact ⟨by rw [HRS.out]; rfl, HBL.out.trans (HB8.out.mono HBL.out.size)⟩
      · have HF := Lib.hid hf
        clear hf
        go_upto_region 8 with (first | (at_lookup; refine wpList_look_pt _ rfl _ _ rfl Mb m D rfl HM.out z rfl HZ.out f HLz.out (.pointer none) (by rw [HF.out]) ?_))
        obtain ⟨W2, hW2⟩ : ∃ W2, (wr.alloc (.cells #[.int .i64 k0, .int .i64 z, .int .i64 i0, .int .i64 s0] 45)).alloc (.cells #[.slice none 0 0, .int .i64 0, .bool false] 57) = W2 := ⟨_, rfl⟩
        have hb2 : Below (wr.alloc (.cells #[.int .i64 k0, .int .i64 z, .int .i64 i0, .int .i64 s0] 45)).heap.size (wr.alloc (.cells #[.int .i64 k0, .int .i64 z, .int .i64 i0, .int .i64 s0] 45)) W2 := by rw [← hW2]; go_grown
        have hB : W2.heap[wr.heap.size + 1]? = some (.cells #[.slice none 0 0, .int .i64 0, .bool false] 57 (0, 0)) := by
          rw [← hW2]
          have := heap_new (wr.alloc (.cells #[.int .i64 k0, .int .i64 z, .int .i64 i0, .int .i64 s0] 45)) (.cells #[.slice none 0 0, .int .i64 0, .bool false] 57)
          simpa using this
        have hbx := HBX1.out W2 hb2
        have d0 := cel hbx 0
        have d1' : W2.cell? ⟨wr.heap.size, 1, none⟩ = some (.int .i64 z) := cel hbx 1
        have HM2 : Hid (W2.ownsMap Try.prog 3 ptE Mb m D) := Lib.hid (ownsMap_blk HM.out (hb2.block Mb HM.out.lt))
        have HJ2 := Lib.hid (hJ W2 (wr.heap.size + 1))
        have HBX2 := Lib.hid hbx
        have HB2 := Lib.hid hb2
        have HBB := Lib.hid hB
        have HSZ : Hid ((wr.alloc (.cells #[.int .i64 k0, .int .i64 z, .int .i64 i0, .int .i64 s0] 45)).heap.size = wr.heap.size + 1) := Lib.hid (by simp)
        have HMR : Hid (Mb ≠ wr.heap.size) := Lib.hid (by obtain ⟨es', c', h1, _⟩ := HM2.out; intro e; rw [e, hbx] at h1; cases h1)
        rw [hW2]
        clear hW2 hb2 hB hbx hJ HM HBX1 d0
        go_upto_region 9 with (first | (at_mapUpdate; refine wpList_mapUpdate_own _ rfl _ _ _ 53 rfl 3 54 law Try.underlying53 ptE Mb m D rfl HM2.out (by unfold maxLen; omega) _ _ (kz z) rfl rfl (keyZ HZ.out) _ [] (ptE_some (wr.heap.size + 1)) ?_; intro W3 hown3 hgr3))
        have HJ : Hid (CJ w Mb es k (k0, z, i0, s0) (wr.heap.size + 1) W3) := Lib.hid (HJ2.out W3 HB2.out (by rw [HSZ.out]; exact Nat.le_refl _) HBB.out hown3 hgr3)
        have HBX3 : Hid (W3.heap[wr.heap.size]? = some (.cells #[.int .i64 k0, .int .i64 z, .int .i64 i0, .int .i64 s0] 45 (0, 0))) := Lib.hid ((hgr3.block wr.heap.size (lt_of HBX2.out) (fun e => HMR.out (Option.some.inj e).symm)).trans HBX2.out)
        have BX : Hid (∀ w', Below W3.heap.size W3 w' → w'.cell? ⟨wr.heap.size, 0, none⟩ = some (.int .i64 k0) ∧ w'.cell? ⟨wr.heap.size, 1, none⟩ = some (.int .i64 z) ∧ w'.cell? ⟨wr.heap.size, 2, none⟩ = some (.int .i64 i0) ∧ w'.cell? ⟨wr.heap.size, 3, none⟩ = some (.int .i64 s0)) := Lib.hid (fun w' hb => have h := (hb.block _ (lt_of HBX3.out)).trans HBX3.out; ⟨cel h 0, cel h 1, cel h 2, cel h 3⟩)
        obtain ⟨e0, e1, e2, e3⟩ := BX.out W3 (Below.refl _ _)
        clear hown3 hgr3 HM2 HJ2 HBX2 HB2 HBB HSZ HMR HBX3 d1'
        have HC : Hid (Calls Try.prog 22 #[.pointer (some ⟨wr.heap.size + 1, 0, none⟩), .agg #[.int .i64 k0, .int .i64 z, .int .i64 i0, .int .i64 s0]] W3 fun e' w' => e' = .returned (.int .i64 cx) ∧ Below W3.heap.size W3 w') := Lib.hid (by have := HJ.out.check (by omega); rw [HCX.out] at this; exact this)
        by_cases h0 : cx = 0
        · have HTk : Hid (∀ w', Below W3.heap.size W3 w' → Calls Try.prog 23 #[.pointer (some ⟨wr.heap.size + 1, 0, none⟩), .agg #[.int .i64 k0, .int .i64 z, .int .i64 i0, .int .i64 s0]] w' fun e' w'' => e' = .returned (.tuple #[]) ∧ Hid (CI w Mb es (k + 1) w'')) := Lib.hid (fun w' hb => (HJ.out.below hb).take (by omega) HX.out (by rw [HCX.out]; exact h0) HGO.out)
          subst h0
          go_wp2_with (first | (go_at_call 22; (with_reducible refine HC.out.mono ?_); rintro _ w8 ⟨rfl, hb8⟩; have HB8 := Lib.hid hb8; obtain ⟨d0, d1, d2, d3⟩ := BX.out w8 hb8; clear hb8) | (go_at_call 23; (with_reducible refine (HTk.out _ (by first | exact HB8.out | (repeat (first | exact HB8.out | apply ghb | apply ghd)))).mono ?_); rintro _ w9 ⟨rfl, HCI⟩))
          go_roundw
          case rel => exact ⟨k + 1, by omega, by go_num, HCI⟩
          case measure => simp [intOf]; omega
        · have h0b := bF h0
          have h0d := dF h0
          have h0n := nF h0
          have HRS : Hid (chk es = (k, cx)) := Lib.hid (by rw [← HGO.out, HDR.out, go, if_neg (by rw [HCX.out]; exact h0), HCX.out])
          have HBL : Hid (Below w.heap.size w W3) := Lib.hid HJ.out.b
          go_wp2_with (first | (go_at_call 22; (with_reducible refine HC.out.mono ?_); rintro _ w8 ⟨rfl, hb8⟩; have HB8 := Lib.hid hb8; clear hb8))
          go_ret2
          exact ⟨by rw [HRS.out]; rfl, HBL.out.trans (HB8.out.mono HBL.out.size)⟩
    · obtain rfl : k = n := by omega
      have HRS : Hid (chk es = (0, 0)) := Lib.hid (by
        obtain ⟨ρ, xs, _, _, _, _, h5⟩ := HK.out
        rw [← h5, List.drop_of_length_le (by rw [← HN.out]; exact Nat.le_refl _), go])
      have HBL : Hid (Below w.heap.size w wr) := Lib.hid HK.out.b
      clear HK
      go_wp2_with fail
      go_ret2
      exact ⟨by rw [HRS.out]; rfl, HBL.out⟩
end Go.Proofs.Ytgbeghaojkhiaaa.tr
