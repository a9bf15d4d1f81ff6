/- The instruction that four bytes are, as the document has it (layer 3). -/
import Derived.Test.YthllikmnlnakkaaInF
namespace Go.Proofs.Ythllikmnlnakkaa.ins
open Go.ChangeShapes Go.WideShapes Go.ChangeAt Go.RowKit
open Go.Proofs.Ythllikmnlnakkaa.bin Go.Proofs.Ythllikmnlnakkaa.bits
set_option linter.unusedVariables false
set_option linter.unusedSimpArgs false
abbrev zcells : Array Value := #[.int .i64 0, .int .i64 0, .int .i64 0, .int .i64 0]
/-- What is there while the document reads: the result, what is none, the fields. -/
structure RS (w : World) (FB : Nat) (wr : World) (vs : List Int) : Prop where
  rb : wr.heap[w.heap.size]? = some (.cells zcells 40 (0, 0))
  nb : wr.heap[w.heap.size + 1]? = some (.cells zcells 40 (0, 0))
  fb : wr.heap[FB]? = some (.cells (row3 vs) 54 (0, 0))
  b : Below w.heap.size w wr
  lt : w.heap.size + 1 < FB
theorem RS.fld {w wr : World} {FB : Nat} {vs : List Int} (h : RS w FB wr vs) (i : Nat) (n : Int) (hi : i = vs.length) (h3 : i < 3) : RS w FB (wr.setCell ⟨FB, i, none⟩ (.int .i64 n)) (vs ++ [n]) := by
  subst hi
  have hl := h.lt
  refine ⟨(set_oth _ _ _ _ _ (by omega)).trans h.rb, (set_oth _ _ _ _ _ (by omega)).trans h.nb, ?_, h.b.setCell (p := ⟨FB, vs.length, none⟩) (by show w.heap.size ≤ FB; omega) _, hl⟩
  rw [← row3_set vs n h3]
  exact set_blk _ _ _ _ h.fb
theorem RS.fld2 {w wr : World} {FB : Nat} {vs : List Int} {m : Int} (h : RS w FB wr (vs ++ [m])) (i : Nat) (n : Int) (hi : i = vs.length) (h3 : i < 3) : RS w FB (wr.setCell ⟨FB, i, none⟩ (.int .i64 n)) (vs ++ [n]) := by
  subst hi
  have hl := h.lt
  refine ⟨(set_oth _ _ _ _ _ (by omega)).trans h.rb, (set_oth _ _ _ _ _ (by omega)).trans h.nb, ?_, h.b.setCell (p := ⟨FB, vs.length, none⟩) (by show w.heap.size ≤ FB; omega) _, hl⟩
  rw [← row3_set2 vs m n h3]
  exact set_blk _ _ _ _ h.fb
theorem ofB_bd (l : List UInt8) (h : l.length ≤ 2) : (ofB l : Int) ≤ 65535 ∧ 0 ≤ (ofB l : Int) := by
  have h1 := ofB_lt l
  have : 256 ^ l.length ≤ 256 ^ 2 := Nat.pow_le_pow_right (by decide) h
  omega
set_option maxRecDepth 20000 in
set_option maxHeartbeats 4000000 in
theorem rget_v (b : UInt8) (rest : List UInt8) (w : World) (hr : rest.length = 3) (h25 : ¬ 25 < b.toNat) :
    Calls Try.prog 30 #[.string ⟨(b :: rest).toArray⟩] w fun e w' => e = .returned (GV (b :: rest)) ∧ Below w.heap.size w w' := by
  have hs := str_size (b :: rest)
  have hl4 : (b :: rest).length = 4 := by simp [hr]
  rw [hl4] at hs
  have HG3 := Lib.hid (fun h2 => gv_bad _ _ (ge_three b rest hr h25 h2) (by decide))
  have HG4 := Lib.hid (fun h2 h3 => gv_bad _ _ (ge_four b rest hr h25 h2 h3) (by decide))
  have HG0 := Lib.hid (fun vs h2 h3 h4 => gv_good b rest vs hr h25 h2 h3 h4)
  have hRes : ∀ e : Int, gz e = .tuple #[.agg #[.int .i64 0, .int .i64 0, .int .i64 0, .int .i64 0], .int .i64 e] := fun e => rfl
  have HRS := Lib.hid hRes
  obtain ⟨V, hV⟩ : ∃ V, GV (b :: rest) = V := ⟨_, rfl⟩
  rw [hV] at HG3 HG4 HG0
  have hsub := fun i k => str_sub (b :: rest) i k
  rw [hV]
  obtain ⟨l, hl⟩ : ∃ l, b :: rest = l := ⟨_, rfl⟩
  have hd1 : Hid (l.drop 1 = rest) := Lib.hid (by rw [← hl]; rfl)
  have HL4 : Hid (l.length = 4) := Lib.hid (by rw [← hl]; exact hl4)
  rw [hl] at hs hsub ⊢
  have HSUB := Lib.hid hsub
  clear hsub
  have hat0 : (⟨l.toArray⟩ : ByteArray)[0]'(by rw [hs]; omega) = b := by rw [str_at, ← hl]; rfl
  have hbl := b.toNat_lt
  have hI25 : ¬ (25 : Int) < (b.toNat : Int) := by omega
  have hll4 : (l.length : Int) = 4 := by rw [HL4.out]; rfl
  clear hV hRes hl hl4
  obtain ⟨f, hf⟩ : ∃ f, frm b.toNat = f := ⟨_, rfl⟩
  have hfo := frm_ok b.toNat
  have hsw := sumW_frm b.toNat
  have CF := rf_of (b.toNat : Int)
  rw [frm_nat] at CF
  have CC := fun A B C c w (hc : chkL f (three A B C) = c) => rchk_v (b.toNat : Int) A B C c f w (by omega) (by omega) (by rw [← hf]; exact hfo.1) (Lib.hid (by rw [← hf]; exact hfo.2)) (Lib.hid (by rw [← hf]; exact CF)) hc
  rw [hf] at hfo hsw CF HG3 HG4 HG0
  obtain ⟨hl3, hL0⟩ := hfo
  have hL := Lib.hid hL0
  replace CF := Lib.hid CF
  replace CC := Lib.hid CC
  have hfs := str_size f
  have HRV := Lib.hid (readL_vals f rest)
  have HRB := Lib.hid (readL_bad f rest)
  have HCV := Lib.hid (chk_vals f rest)
  have HVL := Lib.hid (vals_len f rest)
  clear hf hL0
  obtain ⟨T, hT⟩ : ∃ T, readL f rest = T := ⟨_, rfl⟩
  rw [hT] at HG3 HG4 HG0 HRV HRB HCV
  obtain ⟨TV, hTV⟩ : ∃ TV, valsL f rest = TV := ⟨_, rfl⟩
  rw [hTV] at HRV HCV HVL
  have hT0 : Hid (TV = ([] : List Int) ++ valsL (f.drop 0) (l.drop 1)) := Lib.hid (by simp [hTV, hd1.out])
  clear hT hTV
  go_enter Try.func30, Try.ntmps30
  go_wp2_with fail
  refine (CF.out _).mono ?_
  rintro e w2 ⟨rfl, hb2⟩
  have hz0 : (w.alloc (.cells #[.int .i64 0, .int .i64 0, .int .i64 0, .int .i64 0] 40)).heap.size = w.heap.size + 1 := by simp
  have hr0 : w2.heap[w.heap.size]? = some (.cells zcells 40 (0, 0)) := kb (kb (heap_new w _ _) (by go_grown)) hb2
  have hn0 : w2.heap[w.heap.size + 1]? = some (.cells zcells 40 (0, 0)) := kb (by rw [← hz0]; exact heap_new _ _ _) hb2
  have hlt : w.heap.size + 1 < w2.heap.size := (Array.getElem?_eq_some_iff.1 hn0).1
  have hB : Below w.heap.size w w2 := tr3 (by go_grown) hb2
  obtain ⟨FB, hFB⟩ : ∃ FB, w2.heap.size = FB := ⟨_, rfl⟩
  obtain ⟨W, hW⟩ : ∃ W, w2.alloc (.cells #[.int .i64 0, .int .i64 0, .int .i64 0] 54) = W := ⟨_, rfl⟩
  have hgs : RS w FB W [] := by
    have hbb : Below w2.heap.size w2 W := by rw [← hW]; go_grown
    refine ⟨kb hr0 hbb, kb hn0 hbb, ?_, tr3 hB hbb, by rw [← hFB]; exact hlt⟩
    rw [← hW, ← hFB]
    exact heap_new w2 _ _
  have HGS := Lib.hid hgs
  have HW := Lib.hid hW
  have HFE := Lib.hid hFB
  clear hb2 hz0 hr0 hn0 hlt hB hgs hW hFB CF
  go_wp2_with fail
  rw [HW.out, HFE.out]
  clear HW HFE
  go_loopw [7, 8] (fun at_ i wr => ∃ (pos at0 : Nat) (vs : List Int), at_ = .int .i64 (at0 : Int) ∧ i = .int .i64 (pos : Int) ∧ pos ≤ f.length ∧ vs.length = pos ∧ at0 + sumW (f.drop pos) = 1 + sumW f ∧ Hid (RS w FB wr vs) ∧ Hid (TV = vs ++ valsL (f.drop pos) (l.drop at0))) (fun _ i _ => f.length - (intOf i).toNat)
  case atStart => exact ⟨0, 1, [], rfl, rfl, by omega, rfl, by simp, HGS, hT0⟩
  case round =>
    clear HGS hT0
    obtain ⟨pos, at0, vs, rfl, rfl, hpl, hvl, hat, HGS, HT⟩ := hrel
    by_cases hlt : pos < f.length
    · have hps : pos < (⟨f.toArray⟩ : ByteArray).size := by rw [hfs]; exact hlt
      have hxL : Lt (f.getD pos 0) := getD_Lt hL.out hlt
      have hatf := str_at f pos hps
      have hd : f.drop pos = f.getD pos 0 :: f.drop (pos + 1) := drop_at f 0 pos hlt
      obtain ⟨x, hx⟩ : ∃ x, f.getD pos 0 = x := ⟨_, rfl⟩
      rw [hx] at hxL hatf hd
      rw [hd, sumW] at hat
      have hwd := wd_pos x
      have hplI : (pos : Int) < (f.length : Int) := by omega
      have hp3 : (pos : Int) < 3 := by omega
      have hat4 : at0 + wd x ≤ 4 := by omega
      obtain ⟨m, hm⟩ : ∃ m, ((ofB ((l.drop at0).take (wd x)) : Nat) : Int) = m := ⟨_, rfl⟩
      have hmb := ofB_bd ((l.drop at0).take (wd x)) (by rw [List.length_take]; omega)
      rw [hm] at hmb
      have CO := of_l ((l.drop at0).take (wd x))
      have hsx := HSUB.out at0 (wd x)
      obtain ⟨sx, hsxe⟩ : ∃ sx, (l.drop at0).take (wd x) = sx := ⟨_, rfl⟩
      have hsxl : sx.length ≤ 4 := by rw [← hsxe, List.length_take]; omega
      rw [hsxe] at CO hsx hm
      replace CO := Lib.hid (fun w => CO w hsxl)
      rw [hm] at CO
      have HTN : Hid (TV = (vs ++ [valB x sx]) ++ valsL (f.drop (pos + 1)) (l.drop (at0 + wd x))) := Lib.hid (by rw [HT.out, hd, valsL, List.append_assoc, List.drop_drop, hsxe]; rfl)
      have hfx := row3_cell HGS.out.fb pos (by omega)
      have hfx1 := hfx.1
      have hfx2 := hfx.2
      have hbf : FB < wr.heap.size := (Array.getElem?_eq_some_iff.1 HGS.out.fb).1
      have HGS1 := Lib.hid (HGS.out.fld pos m hvl.symm (by omega))
      have hatI : ((at0 + wd x : Nat) : Int) = (at0 : Int) + ((wd x : Nat) : Int) := by omega
      clear hfx hd hx HT HGS hsxl
      have hxx : x = 110 ∨ x = 116 ∨ (x = 114 ∨ x = 102) := by
        rcases hxL with h | h | h | h
        · exact .inr (.inr (.inl h))
        · exact .inl h
        · exact .inr (.inl h)
        · exact .inr (.inr (.inr h))
      clear hxL
      rcases hxx with hx | hx | hx
      · have hw2 : wd x = 2 := by rw [hx]; rfl
        have hv : valB x sx = sgV m 2 := by rw [hx, valB_n, hm]
        have hx1 : ((x.toNat : Int) == 110) = true := by rw [hx]; rfl
        rw [hv] at HTN
        obtain ⟨n, hn⟩ : ∃ n, sgV m 2 = n := ⟨_, rfl⟩
        have CS := rsigned_any m 2
        rw [show hz 2 = 2 from rfl, hn] at CS
        replace CS := Lib.hid (fun w => CS w (by omega) (by omega))
        rw [hn] at HTN
        rw [hw2] at hsx hatI HTN hat4 hat
        have HGS2 := Lib.hid (HGS1.out.fld2 pos n hvl.symm (by omega))
        have hgx := (row3_cell HGS1.out.fb pos (by omega))
        have hgv : (vs ++ [m]).getD pos 0 = m := by rw [List.getD_eq_getElem?_getD, List.getElem?_append_right (by omega), hvl]; simp
        rw [hgv] at hgx
        have hgx1 := hgx.1
        have hgx2 := hgx.2
        clear hx hv hn hsxe hm hgx hgv
        go_wp2_with (first | (go_at_call 28; (with_reducible refine (CO.out _).mono ?_); rintro e w' ⟨rfl, rfl⟩) | (go_at_call 48; (with_reducible refine (CS.out _).mono ?_); rintro e w' ⟨rfl, rfl⟩))
        go_roundw
        case rel => exact ⟨pos + 1, at0 + 2, vs ++ [n], by go_num, by go_num, by omega, by rw [List.length_append, hvl]; rfl, by omega, HGS2, HTN⟩
        case measure => simp [intOf]; omega
      · have hw2 : wd x = 2 := by rw [hx]; rfl
        have hxn : x ≠ 110 := by rw [hx]; decide
        have hv : valB x sx = m := by rw [valB_o x _ hxn, hm]
        have hx1 : ((x.toNat : Int) == 110) = false := by rw [hx]; rfl
        have hx2 : ((x.toNat : Int) == 116) = true := by rw [hx]; rfl
        rw [hv] at HTN
        rw [hw2] at hsx hatI HTN hat4 hat
        clear hx hv hsxe hm hxn
        go_wp2_with (first | (go_at_call 28; (with_reducible refine (CO.out _).mono ?_); rintro e w' ⟨rfl, rfl⟩))
        go_roundw
        case rel => exact ⟨pos + 1, at0 + 2, vs ++ [m], by go_num, by go_num, by omega, by rw [List.length_append, hvl]; rfl, by omega, HGS1, HTN⟩
        case measure => simp [intOf]; omega
      · have hw2 : wd x = 1 := by rcases hx with h | h <;> rw [h] <;> rfl
        have hxn : x ≠ 110 := by rcases hx with h | h <;> rw [h] <;> decide
        have hv : valB x sx = m := by rw [valB_o x _ hxn, hm]
        have hx1 : ((x.toNat : Int) == 110) = false := by rcases hx with h | h <;> rw [h] <;> rfl
        have hx2 : ((x.toNat : Int) == 116) = false := by rcases hx with h | h <;> rw [h] <;> rfl
        rw [hv] at HTN
        rw [hw2] at hsx hatI HTN hat4 hat
        clear hx hv hsxe hm hxn
        go_wp2_with (first | (go_at_call 28; (with_reducible refine (CO.out _).mono ?_); rintro e w' ⟨rfl, rfl⟩))
        go_roundw
        case rel => exact ⟨pos + 1, at0 + 1, vs ++ [m], by go_num, by go_num, by omega, by rw [List.length_append, hvl]; rfl, by omega, HGS1, HTN⟩
        case measure => simp [intOf]; omega
    · obtain rfl : pos = f.length := by omega
      have hTV : TV = vs := by have := HT.out; rw [List.drop_length] at this; simpa [valsL] using this
      have hat1 : at0 = 1 + sumW f := by rw [List.drop_length] at hat; simpa [sumW] using hat
      subst hTV
      have HAT1 := Lib.hid hat1
      have hax : at0 ≤ 4 := by omega
      clear hat1 hat
      have h3c := HCV.out (List.replicate (3 - TV.length) 0) (fun x hx => (List.mem_replicate.1 hx).2)
      rw [← three_pad TV (by omega)] at h3c
      have hrf := HGS.out.fb
      have g0 := (row3_cell hrf 0 (by omega)).1
      have g1 := (row3_cell hrf 1 (by omega)).1
      have g2 := (row3_cell hrf 2 (by omega)).1
      have HG0' := Lib.hid (fun h1 hz => HG0.out TV h1 hz (HRV.out h1).1)
      obtain ⟨a0, ha0⟩ : ∃ a, TV.getD 0 0 = a := ⟨_, rfl⟩
      obtain ⟨a1, ha1⟩ : ∃ a, TV.getD 1 0 = a := ⟨_, rfl⟩
      obtain ⟨a2, ha2⟩ : ∃ a, TV.getD 2 0 = a := ⟨_, rfl⟩
      rw [ha0] at g0 h3c HG0'
      rw [ha1] at g1 h3c HG0'
      rw [ha2] at g2 h3c HG0'
      have CC1 := Lib.hid (fun w => CC.out a0 a1 a2 T.1 w h3c)
      have HRD := Lib.hid (fun h1 => (HRV.out h1).2)
      have hbf : FB < wr.heap.size := (Array.getElem?_eq_some_iff.1 hrf).1
      obtain ⟨WX, hWX⟩ : ∃ WX, (wr.alloc (.cells #[.int .i64 (b.toNat : Int), .int .i64 a0, .int .i64 a1, .int .i64 a2] 40)).drew = WX := ⟨_, rfl⟩
      have hbx : Below wr.heap.size wr WX := by rw [← hWX]; go_grown
      have hxc : WX.heap[wr.heap.size]? = some (.cells #[.int .i64 (b.toNat : Int), .int .i64 a0, .int .i64 a1, .int .i64 a2] 40 (0, 0)) := by rw [← hWX]; exact heap_new wr _ _
      have hr0 := kb HGS.out.rb hbx
      have hn0 := kb HGS.out.nb hbx
      have HBX := Lib.hid (tr3 HGS.out.b hbx)
      have HXC := Lib.hid hxc
      have HR0 := Lib.hid hr0
      have HN0 := Lib.hid hn0
      have HWX := Lib.hid hWX
      obtain ⟨t1, ht1⟩ : ∃ t, T.1 = t := ⟨_, rfl⟩
      have hTbad := HRB.out
      rw [ht1] at hTbad CC1
      have HT1 := Lib.hid ht1
      clear HT HGS HG0 HRV HCV ha0 ha1 ha2 h3c hrf hbx hxc hr0 hn0 hWX ht1 CC
      go_wp2_with fail
      go_region
      go_wp2_with fail
      rw [HWX.out]
      refine (CC1.out _).mono ?_
      rintro e w5 ⟨rfl, hb5⟩
      have hr0 := kb HR0.out hb5
      have hn0 := kb HN0.out hb5
      have hxc := kb HXC.out hb5
      have hB5 := tr3 HBX.out hb5
      clear HR0 HN0 HXC HBX HWX CC1 hb5 g0 g1 g2 hbf
      have HBX := Lib.hid hB5
      have d0 : w5.cell? ⟨w.heap.size + 1, 0, none⟩ = some (.int .i64 0) := cel hn0 0
      have d1 : w5.cell? ⟨w.heap.size + 1, 1, none⟩ = some (.int .i64 0) := cel hn0 1
      have d2 : w5.cell? ⟨w.heap.size + 1, 2, none⟩ = some (.int .i64 0) := cel hn0 2
      have d3 : w5.cell? ⟨w.heap.size + 1, 3, none⟩ = some (.int .i64 0) := cel hn0 3
      have c0 : w5.cell? ⟨w.heap.size, 0, none⟩ = some (.int .i64 0) := cel hr0 0
      have c1 : w5.cell? ⟨w.heap.size, 1, none⟩ = some (.int .i64 0) := cel hr0 1
      have c2 : w5.cell? ⟨w.heap.size, 2, none⟩ = some (.int .i64 0) := cel hr0 2
      have c3 : w5.cell? ⟨w.heap.size, 3, none⟩ = some (.int .i64 0) := cel hr0 3
      have f0 : w5.frozen? ⟨w.heap.size, 0, none⟩ = false := frz hr0 0
      have f1 : w5.frozen? ⟨w.heap.size, 1, none⟩ = false := frz hr0 1
      have f2 : w5.frozen? ⟨w.heap.size, 2, none⟩ = false := frz hr0 2
      have f3 : w5.frozen? ⟨w.heap.size, 3, none⟩ = false := frz hr0 3
      have hlt0 : w.heap.size < w5.heap.size := (Array.getElem?_eq_some_iff.1 hr0).1
      have HR0 := Lib.hid hr0
      have x0 : w5.cell? ⟨wr.heap.size, 0, none⟩ = some (.int .i64 (b.toNat : Int)) := cel hxc 0
      have x1 : w5.cell? ⟨wr.heap.size, 1, none⟩ = some (.int .i64 a0) := cel hxc 1
      have x2 : w5.cell? ⟨wr.heap.size, 2, none⟩ = some (.int .i64 a1) := cel hxc 2
      have x3 : w5.cell? ⟨wr.heap.size, 3, none⟩ = some (.int .i64 a2) := cel hxc 3
      clear hr0 hn0 hxc hB5
      rcases hTbad with h | h
      · subst h
        have hT0 := HT1.out
        have hTr := HRD.out hT0
        have HG4'' := Lib.hid (fun hz => HG4.out hT0 hz)
        have HG0'' := Lib.hid (fun hz => HG0'.out hT0 hz)
        obtain ⟨za, hza⟩ : ∃ z, T.2.2.all (· == 0) = z := ⟨_, rfl⟩
        rw [hza] at HG4'' HG0''
        have hA : Hid ((l.drop at0).all (· == 0) = za) := Lib.hid (by
          rw [← hza, hTr, ← hd1.out, List.drop_drop, HAT1.out])
        clear HG4 HG0' HG3 hza hTr HRD HRB HT1
        go_wp2_with fail
        go_loop [12] (fun i => ∃ j : Nat, i = .int .i64 (j : Int) ∧ j ≤ 4 ∧ Hid ((l.drop j).all (· == 0) = za)) (fun i => 4 - (intOf i).toNat)
        case atStart => exact ⟨at0, rfl, hax, hA⟩
        case round =>
          clear hA
          obtain ⟨j, rfl, hj, HA⟩ := hrel
          by_cases hlt : j < 4
          · have hjs : j < (⟨l.toArray⟩ : ByteArray).size := by rw [hs]; exact hlt
            have hat := str_at l j hjs
            have hd : l.drop j = l.getD j 0 :: l.drop (j + 1) := drop_at l 0 j (by rw [HL4.out]; exact hlt)
            obtain ⟨y, hy⟩ : ∃ y, l.getD j 0 = y := ⟨_, rfl⟩
            rw [hy] at hat hd
            have hyl := y.toNat_lt
            have HA' := HA.out
            rw [hd] at HA'
            have hltI : (j : Int) < 4 := by omega
            clear hy hd HA
            by_cases h0 : y = 0
            · subst h0
              have HA1 : Hid ((l.drop (j + 1)).all (· == 0) = za) := Lib.hid (by rw [← HA']; rfl)
              have hat' : (⟨l.toArray⟩ : ByteArray)[j] = 0 := hat
              clear HA'
              go_wp2_with fail
              go_round
              case rel => exact ⟨j + 1, by go_num, by omega, HA1⟩
              case measure => simp [intOf]; omega
            · have hyn : ¬ (y.toNat : Int) = 0 := by
                intro h
                apply h0
                have : y.toNat = 0 := by omega
                exact UInt8.toNat_inj.1 this
              have hyb : ((y.toNat : Int) == 0) = false := by simpa using hyn
              have hyc : ((y.toNat : Int) != 0) = true := by simpa using hyn
              have hz0 : za = false := by rw [← HA']; simp [h0]
              have hV := HG4''.out hz0
              rw [HRS.out] at hV
              subst hV
              clear HA' HG4'' HG0''
              go_wp2_with fail
              exact bodyPost_ret (res_ins Try.results30 rfl rfl (st4_blk (a' := .int .i64 0) (b' := .int .i64 0) (c' := .int .i64 0) (d' := .int .i64 0) HR0.out)) rfl ⟨rfl, st4_below HBX.out (Nat.le_refl _) _ _ _ _⟩
          · obtain rfl : j = 4 := by omega
            have hz1 : za = true := by rw [← HA.out, List.drop_eq_nil_of_le (by rw [HL4.out]; exact Nat.le_refl _)]; rfl
            have hV := HG0''.out hz1
            subst hV
            clear HA HG4'' HG0''
            go_wp2_with fail
            exact bodyPost_ret (res_ins Try.results30 rfl rfl (st4_blk (a' := .int .i64 (b.toNat : Int)) (b' := .int .i64 a0) (c' := .int .i64 a1) (d' := .int .i64 a2) HR0.out)) rfl ⟨rfl, st4_below HBX.out (Nat.le_refl _) _ _ _ _⟩
      · subst h
        have hV := HG3.out (by rw [HT1.out]; decide)
        rw [HRS.out] at hV
        subst hV
        clear HG4 HG0' HG3 HRD HRB HT1
        go_wp2_with fail
        exact bodyPost_ret (res_ins Try.results30 rfl rfl (st4_blk (a' := .int .i64 0) (b' := .int .i64 0) (c' := .int .i64 0) (d' := .int .i64 0) HR0.out)) rfl ⟨rfl, st4_below HBX.out (Nat.le_refl _) _ _ _ _⟩
theorem rget_of (l : List UInt8) (w : World) :
    Calls Try.prog 30 #[.string ⟨l.toArray⟩] w fun e w' => e = .returned (GV l) ∧ Below w.heap.size w w' := by
  by_cases h1 : l.length < 4
  · rw [gv_bad l 1 (by unfold getE; rw [if_pos h1]) (by decide)]
    exact rget_short l w h1
  · by_cases h2 : 4 < l.length
    · rw [gv_bad l 2 (by unfold getE; rw [if_neg h1, if_pos h2]) (by decide)]
      exact rget_long l w h2
    · obtain ⟨b, rest, rfl⟩ : ∃ b rest, l = b :: rest := by
        cases l with
        | nil => simp at h1
        | cons b rest => exact ⟨b, rest, rfl⟩
      have hr : rest.length = 3 := by rw [List.length_cons] at h1 h2; omega
      by_cases h25 : 25 < b.toNat
      · rw [gv_bad _ 5 (ge_five b rest hr h25) (by decide)]
        exact rget_kind b _ w (by simp [hr]) rfl h25
      · exact rget_v b rest w hr h25
end Go.Proofs.Ythllikmnlnakkaa.ins
