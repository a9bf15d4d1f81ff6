/- The program that bytes are, as the document reads it (layer 4). -/
import Derived.Test.YthllikmnlnakkaaPrAC
namespace Go.Proofs.Ythllikmnlnakkaa.pr
open Go.ChangeShapes Go.WideShapes Go.ChangeAt Go.RowKit
open Go.Proofs.Ythllikmnlnakkaa.bin Go.Proofs.Ythllikmnlnakkaa.bits Go.Proofs.Ythllikmnlnakkaa.ins
set_option linter.unusedVariables false
set_option linter.unusedSimpArgs false
set_option maxRecDepth 20000 in
set_option maxHeartbeats 8000000 in
theorem rgetp_v (s : List UInt8) (w : World) (res : R3) (hs : s.length ≤ 1000000) (hr : getP s = res) :
    Calls Try.prog 16 #[.string ⟨s.toArray⟩] w fun e w' => GP w res e w' := by
  have hfs := str_size s
  obtain ⟨W, hW⟩ : ∃ W, ((w.alloc (.cells #[.int .i64 0, .slice none 0 0] 24)).alloc (.cells #[.int .i64 0, .slice none 0 0] 24)) = W := ⟨_, rfl⟩
  have hz1 : W.heap[w.heap.size + 1]? = some (.cells #[.int .i64 0, .slice none 0 0] 24 (0, 0)) := by rw [← hW]; simpa using heap_new (w.alloc (.cells #[.int .i64 0, .slice none 0 0] 24)) #[.int .i64 0, .slice none 0 0] 24
  have hz0 : W.heap[w.heap.size]? = some (.cells #[.int .i64 0, .slice none 0 0] 24 (0, 0)) := by rw [← hW]; exact kb (heap_new w _ _) (by go_grown)
  have hb0 : Below w.heap.size w W := by rw [← hW]; go_grown
  have hsz : W.heap.size = w.heap.size + 2 := by rw [← hW]; simp
  have HZ0 := Lib.hid hz0
  have HZ1 := Lib.hid hz1
  have HB0 := Lib.hid hb0
  have HSZ := Lib.hid hsz
  have HW := Lib.hid hW
  clear hz0 hz1 hb0 hsz hW
  unfold getP at hr
  go_enter Try.func16, Try.ntmps16
  by_cases h6 : s.length < 6
  · rw [if_pos h6] at hr
    subst hr
    have h6i : (s.length : Int) < 6 := by omega
    go_wp2_with fail
    rw [HW.out]
    exact bodyPost_ret (res_pg Try.results16 rfl rfl HZ0.out) rfl ⟨⟨_, rfl, PM.nil _⟩, HB0.out⟩
  · rw [if_neg h6] at hr
    have h6i : ¬ (s.length : Int) < 6 := by omega
    have h3i : (3 : Int) ≤ s.length := by omega
    have h3j : (3 : Int) < s.length := by omega
    have h4i : (4 : Int) ≤ s.length := by omega
    have h6j : (6 : Int) ≤ s.length := by omega
    have hex : (⟨s.toArray⟩ : ByteArray).extract 0 3 = ⟨(s.take 3).toArray⟩ := by
      have := str_sub s 0 3
      simpa using this
    obtain ⟨s3, hs3⟩ : ∃ s3, s.take 3 = s3 := ⟨_, rfl⟩
    rw [hs3] at hr hex
    by_cases hm3 : s3 = [72, 82, 1]
    · rw [if_neg (by simpa using hm3)] at hr
      subst hm3
      have hx4 : (⟨s.toArray⟩ : ByteArray).extract 4 6 = ⟨((s.drop 4).take 2).toArray⟩ := str_sub s 4 2
      have hd6 : (⟨s.toArray⟩ : ByteArray).extract 6 s.length = ⟨(s.drop 6).toArray⟩ := by
        have := str_drop s 6
        rwa [str_size] at this
      have hgn := gN_at s (by omega)
      have hat : (⟨s.toArray⟩ : ByteArray)[3]'(by rw [hfs]; omega) = s.getD 3 0 := str_at s 3 _
      obtain ⟨b3, hb3⟩ : ∃ b, s.getD 3 0 = b := ⟨_, rfl⟩
      rw [hb3] at hgn hat
      obtain ⟨n, hn⟩ : ∃ n, b3.toNat = n := ⟨_, rfl⟩
      obtain ⟨m, hm⟩ : ∃ m, gM s = m := ⟨_, rfl⟩
      rw [hgn, hn, hm] at hr
      unfold gM at hm
      have CO := Lib.hid (fun w => rof_v ((s.drop 4).take 2) w m (by rw [List.length_take]; omega) hm)
      have h6l : (s.drop 6).length ≤ 1000000 := by rw [List.length_drop]; omega
      obtain ⟨s4, hs4⟩ : ∃ t, (s.drop 4).take 2 = t := ⟨_, rfl⟩
      obtain ⟨s6, hs6⟩ : ∃ t, s.drop 6 = t := ⟨_, rfl⟩
      rw [hs4] at hx4 CO
      rw [hs6] at hd6 hr h6l
      have hI := HR.init (m : Int) HZ0.out HZ1.out HSZ.out HB0.out
      obtain ⟨W1, hW1⟩ : ∃ W1, W.alloc (.cells #[.int .i64 (m : Int), .slice none 0 0] 24) = W1 := ⟨_, rfl⟩
      rw [hW1] at hI
      have HW1 := Lib.hid hW1
      have HI := Lib.hid hI
      have CM := Lib.hid (fun (n : Nat) (k : Int) c w (h : mnE n k = c) => many_v n k c w h)
      have hnb : n < 256 := by rw [← hn]; exact b3.toNat_lt
      clear hs3 hs4 hs6 hgn hm hI hW1 hb3
      go_wp2_with fail
      rw [HW.out]
      refine (CO.out _).mono ?_
      rintro e w' ⟨rfl, rfl⟩
      obtain ⟨d0, d1, g0, g1⟩ := cel2 HI.out.r0
      obtain ⟨e0, e1, f0, f1⟩ := cel2 HI.out.r1
      rw [← HW1.out] at d0 d1 g0 g1 e0 e1
      clear f0 f1
      have hcn : cntE (m : Int) n = if (256 : Int) < m then 3 else mnE n 16 := by
        rw [← mn_cnt]
        by_cases h1 : (256 : Int) < m
        · rw [if_pos h1, if_pos (.inr h1)]
        · rw [if_neg h1, if_neg (by omega)]
      rw [hcn] at hr
      clear hcn
      by_cases h256 : (256 : Int) < m
      · rw [if_pos h256, if_pos (by decide)] at hr
        subst hr
        go_wp2_with fail
        rw [HW1.out]
        exact bodyPost_ret (res_pg Try.results16 rfl rfl (st2_blk (a' := .int .i64 0) (b' := .slice none 0 0) HI.out.r0)) rfl ⟨⟨_, rfl, PM.nil _⟩, st2_below HI.out.bel (Nat.le_refl _) _ _⟩
      · rw [if_neg h256] at hr
        obtain ⟨e, he⟩ : ∃ e, mnE n 16 = e := ⟨_, rfl⟩
        rw [he] at hr
        have CM1 := Lib.hid (CM.out n 16 e · he)
        by_cases he0 : e = 0
        · subst he0
          rw [if_neg (by simp)] at hr
          have hn16 : n ≤ 16 := by
            unfold mnE at he
            split at he
            · omega
            · split at he <;> omega
          clear he
          have HS0 := Lib.hid hr
          clear hr
          go_wp2_with fail
          refine (CM1.out _).mono ?_
          rintro e w' ⟨rfl, rfl⟩
          go_wp2_with fail
          rw [HW1.out]
          rw [HSZ.out]
          clear d0 d1 g0 g1 e0 e1 HW1 CM1 HZ0 HZ1 HB0 HSZ HW CO
          have hst0 : Hid (stF (m : Int) (n - 0) [] s6 = res) := HS0
          clear HS0
          go_loopw [8, 9] (fun rs i wr => ∃ (k : Nat) (r : List UInt8) (v : Value) (rows : List Value) (acc : List (List I4)), i = .int .i64 (k : Int) ∧ rs = .string ⟨r.toArray⟩ ∧ k ≤ n ∧ acc.length = k ∧ r.length ≤ 1000000 ∧ Hid (stF (m : Int) (n - k) acc r = res) ∧ Hid (HR w wr m v rows acc)) (fun _ i _ => n - (intOf i).toNat)
          case atStart => exact ⟨0, s6, _, _, _, rfl, rfl, by omega, rfl, h6l, hst0, HI⟩
          case round =>
            clear hst0 HI
            obtain ⟨k, r, v, rows, acc, rfl, rfl, hk, hal, hrl, HST, HH⟩ := hrel
            clear hs hfs h6 h3i h3j h4i h6j hex hat hn hx4 h6l hd6 h6i h256 hnb
            by_cases hlt : k < n
            · obtain ⟨q, hq⟩ : ∃ q, n - k = q + 1 := ⟨n - k - 1, by omega⟩
              have hst := HST.out
              rw [hq, stF] at hst
              clear HST
              have hfr := str_size r
              have hplI : (k : Int) < (n : Int) := by omega
              obtain ⟨d0, d1, g0, g1⟩ := cel2 HH.out.r0
              obtain ⟨e0, e1, f0, f1⟩ := cel2 HH.out.r1
              clear f0 f1
              by_cases h2 : r.length < 2
              · rw [if_pos h2] at hst
                subst hst
                have h2i : (r.length : Int) < 2 := by omega
                go_wp2_with fail
                exact bodyPost_ret (res_pg Try.results16 rfl rfl (st2_blk (a' := .int .i64 0) (b' := .slice none 0 0) HH.out.r0)) rfl ⟨⟨_, rfl, PM.nil _⟩, st2_below HH.out.bel (Nat.le_refl _) _ _⟩
              · rw [if_neg h2] at hst
                have h2i : ¬ (r.length : Int) < 2 := by omega
                have h2g : (2 : Int) ≤ r.length := by omega
                have hx2 : (⟨r.toArray⟩ : ByteArray).extract 0 2 = ⟨(r.take 2).toArray⟩ := by
                  have := str_sub r 0 2
                  simpa using this
                have hxd : (⟨r.toArray⟩ : ByteArray).extract 2 r.length = ⟨(r.drop 2).toArray⟩ := by
                  have := str_drop r 2
                  rwa [str_size] at this
                have hr5 : (r.drop 2).length ≤ 1000000 := by rw [List.length_drop]; omega
                have hr2 : (r.take 2).length ≤ 4 := by rw [List.length_take]; omega
                obtain ⟨nf, hnf⟩ : ∃ nf, ofB (r.take 2) = nf := ⟨_, rfl⟩
                rw [hnf] at hst
                obtain ⟨r2, hr2e⟩ : ∃ r2, r.take 2 = r2 := ⟨_, rfl⟩
                obtain ⟨r5, hr5e⟩ : ∃ r5, r.drop 2 = r5 := ⟨_, rfl⟩
                rw [hr2e] at hx2 hnf hr2
                rw [hr5e] at hxd hst hr5
                have CO2 := Lib.hid (fun w => rof_v r2 w nf hr2 hnf)
                obtain ⟨e, he⟩ : ∃ e, lenE nf = e := ⟨_, rfl⟩
                rw [he] at hst
                have CM2 := Lib.hid (fun w => many_v nf 200 e w (by rw [mn_len]; exact he))
                have HE := Lib.hid he
                clear hnf hr2e hr5e hr2 he
                by_cases he0 : e = 0
                · subst he0
                  rw [if_neg (by simp)] at hst
                  obtain ⟨hn1, hn2⟩ := lenE_0 HE.out
                  have HS0 : Hid (stI (fun c r => stF (m : Int) q (acc ++ [c]) r) (nf - 0) [] r5 = res) := Lib.hid hst
                  have HQ := Lib.hid hq
                  have HAL := Lib.hid hal
                  have hab : acc.length ≤ 100000 := by omega
                  have HO0 := Lib.hid (OR.nil (k := 4) (en := enI) wr (w.heap.size + 3) 40)
                  have HN0 := Lib.hid (NB.nil rows)
                  clear hst hq hal
                  go_wp2_with fail
                  refine (CO2.out _).mono ?_
                  rintro e w' ⟨rfl, rfl⟩
                  go_wp2_with fail
                  refine (CM2.out _).mono ?_
                  rintro e w' ⟨rfl, rfl⟩
                  go_wp2_with fail
                  clear d0 d1 g0 g1 e0 e1 hx2 hxd h2i h2g CO2 CM2
                  go_loopw [8, 12, 13] (fun rs u i wq => ∃ (j : Nat) (r : List UInt8) (c : List I4), i = .int .i64 (j : Int) ∧ rs = .string ⟨r.toArray⟩ ∧ j ≤ nf ∧ c.length = j ∧ r.length ≤ 1000000 ∧ Hid (stI (fun c r => stF (m : Int) q (acc ++ [c]) r) (nf - j) c r = res) ∧ Hid (HR w wq m v rows acc) ∧ Hid (OR 4 enI wq (w.heap.size + 3) 40 u c) ∧ Hid (NB rows u)) (fun _ _ i _ => nf - (intOf i).toNat)
                  case atStart => exact ⟨0, r5, [], rfl, rfl, by omega, rfl, hr5, HS0, HH, HO0, HN0⟩
                  case round =>
                    clear HS0 HH HO0 HN0
                    obtain ⟨j, r, c, rfl, rfl, hj, hcl, hrl, HST, HH, HO, HN⟩ := hrel
                    have hfr := str_size r
                    have hcb : c.length ≤ 1000000 := by omega
                    have HCL := Lib.hid hcl
                    clear hcl
                    by_cases hltj : j < nf
                    · obtain ⟨p, hp⟩ : ∃ p, nf - j = p + 1 := ⟨nf - j - 1, by omega⟩
                      have hst := HST.out
                      rw [hp, stI] at hst
                      clear HST
                      have hpl : (j : Int) < (nf : Int) := by omega
                      obtain ⟨r4, hr4⟩ : ∃ r4, r.take 4 = r4 := ⟨_, rfl⟩
                      rw [hr4] at hst
                      obtain ⟨e, he⟩ : ∃ e, getE r4 = e := ⟨_, rfl⟩
                      obtain ⟨⟨y0, y1, y2, y3⟩, hy⟩ : ∃ y, gI r4 = y := ⟨_, rfl⟩
                      rw [he, hy] at hst
                      obtain ⟨d0, d1, g0, g1⟩ := cel2 HH.out.r0
                      obtain ⟨e0, e1, f0, f1⟩ := cel2 HH.out.r1
                      clear f0 f1
                      by_cases hs4 : r.length < 4
                      · have h4i : (r.length : Int) < 4 := by omega
                        obtain rfl : e = 1 := by
                          rw [← he]
                          unfold getE
                          rw [if_pos (by rw [← hr4, List.length_take]; omega)]
                        rw [if_pos (by decide)] at hst
                        subst hst
                        clear he hy hr4
                        go_wp2_with fail
                        exact bodyPost_ret (res_pg Try.results16 rfl rfl (st2_blk (a' := .int .i64 0) (b' := .slice none 0 0) HH.out.r0)) rfl ⟨⟨_, rfl, PM.nil _⟩, st2_below HH.out.bel (Nat.le_refl _) _ _⟩
                      · have h4i : ¬ (r.length : Int) < 4 := by omega
                        have h4g : (4 : Int) ≤ r.length := by omega
                        have hx4 : (⟨r.toArray⟩ : ByteArray).extract 0 4 = ⟨r4.toArray⟩ := by
                          have := str_sub r 0 4
                          rw [← hr4]
                          simpa using this
                        have hxd : (⟨r.toArray⟩ : ByteArray).extract 4 r.length = ⟨(r.drop 4).toArray⟩ := by
                          have := str_drop r 4
                          rwa [str_size] at this
                        have hr5 : (r.drop 4).length ≤ 1000000 := by rw [List.length_drop]; omega
                        obtain ⟨r5, hr5e⟩ : ∃ r5, r.drop 4 = r5 := ⟨_, rfl⟩
                        rw [hr5e] at hst hxd hr5
                        have CG := Lib.hid (fun w => rgi_v r4 y0 y1 y2 y3 e w hy he)
                        have HP := Lib.hid hp
                        clear he hy hr4 hr5e hp
                        by_cases he0 : e = 0
                        · subst he0
                          rw [if_neg (by simp)] at hst
                          have HSN := Lib.hid hst
                          clear hst d0 d1 g0 g1 e0 e1
                          obtain ⟨ua, uc, rfl⟩ := HO.out.form
                          go_wp2_with fail
                          refine (CG.out _).mono ?_
                          rintro e' w5 ⟨rfl, hb5⟩
                          have HH5 := Lib.hid (HH.out.below hb5)
                          have HO5 := Lib.hid (HO.out.below hb5)
                          clear hb5 CG HH HO
                          obtain ⟨W6, hW6⟩ : ∃ W6, w5.alloc (.cells #[.int .i64 y0, .int .i64 y1, .int .i64 y2, .int .i64 y3] 40) = W6 := ⟨_, rfl⟩
                          have h56 : Below w5.heap.size w5 W6 := by rw [← hW6]; go_grown
                          obtain ⟨W7, hW7⟩ : ∃ W7, W6.alloc (.cells #[.int .i64 y0, .int .i64 y1, .int .i64 y2, .int .i64 y3] 40) = W7 := ⟨_, rfl⟩
                          have h67 : Below W6.heap.size W6 W7 := by rw [← hW7]; go_grown
                          have hs6 : W6.heap.size = w5.heap.size + 1 := by rw [← hW6]; simp
                          have HH7 := Lib.hid ((HH5.out.below h56).below h67)
                          have HO7 := Lib.hid ((HO5.out.below h56).below h67)
                          have hu7 : ∀ j u, (enI (y0, y1, y2, y3))[j]? = some u → W7.cell? ((⟨w5.heap.size + 1, 0, none⟩ : Addr).add j) = some u := by
                            rw [← hW7]; exact rec_new hs6 rfl
                          have hB7 : w.heap.size + 3 ≤ W7.heap.size := by have := HH7.out.lt; omega
                          have HU7 := Lib.hid hu7
                          have HB7 := Lib.hid hB7
                          have HW7 : Hid ((w5.alloc (.cells #[.int .i64 y0, .int .i64 y1, .int .i64 y2, .int .i64 y3] 40)).alloc (.cells #[.int .i64 y0, .int .i64 y1, .int .i64 y2, .int .i64 y3] 40) = W7) := Lib.hid (by rw [hW6]; exact hW7)
                          clear hW6 hW7 h56 h67 hs6 hu7 hB7 HH5 HO5
                          go_wp2_with ((at_builtin; rw [HW7.out]; refine wpList_appR rfl _ _ 38 40 _ 32 rfl Try.underlying38 infoI rfl (by decide) recI (w.heap.size + 3) (.slice ua c.length uc) c rfl ⟨w5.heap.size + 1, 0, none⟩ 1 rfl (y0, y1, y2, y3) HO7.out HU7.out hcb HB7.out ?_))
                          intro v8 w8 ho8 hg8 hor8
                          have hh8 := HH7.out.grown hg8 (fun g e => (HO7.out.lt g e).1) (HH7.out.own.grownU HO7.out HN.out hg8)
                          have hn8 := HN.out.app HH7.out.own hor8
                          obtain ⟨ua8, uc8, rfl⟩ := ho8.form
                          have HH8 := Lib.hid hh8
                          have HN8 := Lib.hid hn8
                          have HO8 := Lib.hid ho8
                          clear hh8 hn8 hor8 hg8 ho8 HU7 HB7 HH7 HO7 HW7 HN
                          go_wp2_with fail
                          go_roundw
                          case rel => exact ⟨j + 1, r5, c ++ [(y0, y1, y2, y3)], by go_num, rfl, by omega, by rw [List.length_append, HCL.out]; rfl, hr5, by have := HP.out; rw [show nf - (j + 1) = p by omega]; exact HSN, HH8, HO8, HN8⟩
                          case measure => simp [intOf]; omega
                        · rw [if_pos he0] at hst
                          subst hst
                          have he0b : (e == 0) = false := by simpa using he0
                          have he0n : (e != 0) = true := by simpa using he0
                          clear d0 d1 g0 g1 e0 e1
                          go_wp2_with fail
                          refine (CG.out _).mono ?_
                          rintro e' w5 ⟨rfl, hb5⟩
                          obtain ⟨W6, hW6⟩ : ∃ W6, w5.alloc (.cells #[.int .i64 y0, .int .i64 y1, .int .i64 y2, .int .i64 y3] 40) = W6 := ⟨_, rfl⟩
                          have hg6 := (HH.out.below hb5).below (show Below w5.heap.size w5 W6 by rw [← hW6]; go_grown)
                          obtain ⟨d0, d1, g0, g1⟩ := cel2 hg6.r0
                          obtain ⟨e0, e1, f0, f1⟩ := cel2 hg6.r1
                          rw [← hW6] at d0 d1 g0 g1 e0 e1
                          have HW6 := Lib.hid hW6
                          have HG6 := Lib.hid hg6
                          clear f0 f1 hg6 hW6 hb5
                          go_wp2_with fail
                          rw [HW6.out]
                          exact bodyPost_ret (res_pg Try.results16 rfl rfl (st2_blk (a' := .int .i64 0) (b' := .slice none 0 0) HG6.out.r0)) rfl ⟨⟨_, rfl, PM.nil _⟩, st2_below HG6.out.bel (Nat.le_refl _) _ _⟩
                    · obtain rfl : j = nf := by omega
                      have hst := HST.out
                      rw [Nat.sub_self, stI] at hst
                      obtain ⟨ua, uc, rfl⟩ := HO.out.form
                      have hlt3 := HH.out.lt
                      have hn1 : Below wr.heap.size wr (wr.alloc (.cells #[.slice ua c.length uc] 38)) := by go_grown
                      have HGW := Lib.hid (HH.out.below hn1)
                      have hsz : w.heap.size + 3 ≤ (wr.alloc (.cells #[.slice ua c.length uc] 38)).heap.size := by simp; omega
                      have huw := HO.out.below hn1
                      obtain ⟨c0, c1, f0, f1⟩ := cel2 HH.out.r2
                      have HSN := Lib.hid hst
                      have hlen : (acc ++ [c]).length = acc.length + 1 := by simp
                      have HLN := Lib.hid hlen
                      clear hn1 hst HST f0 f1 hlen
                      go_wp2_with ((at_builtin; refine wpList_appP rfl _ _ rfl (w.heap.size + 3) v rows acc rfl ⟨wr.heap.size, 0, none⟩ 1 rfl (.slice ua c.length uc) c HGW.out.own (by go_simp) huw rfl hab hsz ?_))
                      intro v' w2 ho2 hg2 hb2
                      obtain ⟨va, vc, rfl, _⟩ := ho2.pm.form
                      obtain ⟨h2, hr1⟩ := HGW.out.app hg2 ho2
                      obtain ⟨d0, d1, e0, e1⟩ := cel2 hr1
                      rw [HLN.out] at h2 ⊢
                      have HX2 := Lib.hid h2
                      clear c0 c1 h2 hb2 hg2 ho2 hr1 huw hsz
                      go_wp2_with fail
                      go_roundw
                      case rel => exact ⟨k + 1, r, _, _, acc ++ [c], by go_num, rfl, by omega, by rw [HLN.out, HAL.out], hrl, by have := HQ.out; rw [show n - (k + 1) = q by omega]; exact HSN, HX2⟩
                      case measure => simp [intOf]; omega
                · rw [if_pos he0] at hst
                  subst hst
                  have he0b : (e == 0) = false := by simpa using he0
                  have he0n : (e != 0) = true := by simpa using he0
                  go_wp2_with fail
                  refine (CO2.out _).mono ?_
                  rintro e w' ⟨rfl, rfl⟩
                  go_wp2_with fail
                  refine (CM2.out _).mono ?_
                  rintro e w' ⟨rfl, rfl⟩
                  go_wp2_with fail
                  exact bodyPost_ret (res_pg Try.results16 rfl rfl (st2_blk (a' := .int .i64 0) (b' := .slice none 0 0) HH.out.r0)) rfl ⟨⟨_, rfl, PM.nil _⟩, st2_below HH.out.bel (Nat.le_refl _) _ _⟩
            · obtain rfl : k = n := by omega
              have hst := HST.out
              rw [Nat.sub_self, stF] at hst
              obtain ⟨d0, d1, g0, g1⟩ := cel2 HH.out.r0
              obtain ⟨e0, e1, f0, f1⟩ := cel2 HH.out.r1
              obtain ⟨c0, c1, f0', f1'⟩ := cel2 HH.out.r2
              clear HST f0 f1 f0' f1'
              by_cases h0 : r = []
              · subst h0
                rw [if_neg (by simp)] at hst
                obtain ⟨av, nv, cv, rfl⟩ : ∃ a n c, v = .slice a n c := by
                  obtain ⟨a, c, hv, _⟩ := HH.out.own.pm.form
                  exact ⟨a, _, c, hv⟩
                obtain ⟨e, he⟩ : ∃ e, prE (m : Int) acc = e := ⟨_, rfl⟩
                rw [he] at hst
                have CK := rcheck_v (m : Int) av nv cv acc wr HH.out.own.pm
                rw [he] at CK
                clear he hal
                replace CK := Lib.hid CK
                by_cases h1 : e = 0
                · subst h1
                  rw [if_neg (by simp)] at hst
                  subst hst
                  go_wp2_with fail
                  refine CK.out.mono ?_
                  rintro e w1 ⟨rfl, hb1⟩
                  have hg1 := HH.out.below hb1
                  clear d0 d1 g0 g1 e0 e1 c0 c1 hb1
                  obtain ⟨d0, d1, g0, g1⟩ := cel2 hg1.r0
                  obtain ⟨c0, c1, f0, f1⟩ := cel2 hg1.r2
                  have HG1 := Lib.hid hg1
                  clear hg1
                  go_wp2_with fail
                  have hB : Below w.heap.size w (st2 w1 w.heap.size (.int .i64 (m : Int)) (.slice av nv cv)) := st2_below HG1.out.bel (Nat.le_refl _) _ _
                  have hP : PM (st2 w1 w.heap.size (.int .i64 (m : Int)) (.slice av nv cv)) (.slice av nv cv) acc := OP.pm (HG1.out.own.keep fun k hk => st2_oth _ _ _ _ _ (by omega))
                  exact bodyPost_ret (res_pg Try.results16 rfl rfl (st2_blk (a' := .int .i64 (m : Int)) (b' := .slice av nv cv) HG1.out.r0)) rfl ⟨⟨_, rfl, hP⟩, hB⟩
                · have h1b : (e == 0) = false := by simpa using h1
                  have h1n : (e != 0) = true := by simpa using h1
                  rw [if_pos h1] at hst
                  subst hst
                  go_wp2_with fail
                  refine CK.out.mono ?_
                  rintro e w1 ⟨rfl, hb1⟩
                  have hg1 := HH.out.below hb1
                  clear d0 d1 g0 g1 e0 e1 c0 c1 hb1
                  obtain ⟨d0, d1, g0, g1⟩ := cel2 hg1.r0
                  obtain ⟨e0, e1, f0, f1⟩ := cel2 hg1.r1
                  have HG1 := Lib.hid hg1
                  clear hg1
                  go_wp2_with fail
                  exact bodyPost_ret (res_pg Try.results16 rfl rfl (st2_blk (a' := .int .i64 0) (b' := .slice none 0 0) HG1.out.r0)) rfl ⟨⟨_, rfl, PM.nil _⟩, st2_below HG1.out.bel (Nat.le_refl _) _ _⟩
              · rw [if_pos h0] at hst
                subst hst
                have hne : r.isEmpty = false := by cases r with | nil => exact absurd rfl h0 | cons x l => rfl
                go_wp2_with fail
                exact bodyPost_ret (res_pg Try.results16 rfl rfl (st2_blk (a' := .int .i64 0) (b' := .slice none 0 0) HH.out.r0)) rfl ⟨⟨_, rfl, PM.nil _⟩, st2_below HH.out.bel (Nat.le_refl _) _ _⟩
        · rw [if_pos he0] at hr
          subst hr
          have he0b : (e == 0) = false := by simpa using he0
          have he0n : (e != 0) = true := by simpa using he0
          clear he
          go_wp2_with fail
          refine (CM1.out _).mono ?_
          rintro e w' ⟨rfl, rfl⟩
          go_wp2_with fail
          rw [HW1.out]
          exact bodyPost_ret (res_pg Try.results16 rfl rfl (st2_blk (a' := .int .i64 0) (b' := .slice none 0 0) HI.out.r0)) rfl ⟨⟨_, rfl, PM.nil _⟩, st2_below HI.out.bel (Nat.le_refl _) _ _⟩
    · rw [if_pos hm3] at hr
      subst hr
      have hmb : (s3 == [72, 82, 1]) = false := by simpa using hm3
      go_wp2_with fail
      rw [HW.out]
      exact bodyPost_ret (res_pg Try.results16 rfl rfl HZ0.out) rfl ⟨⟨_, rfl, PM.nil _⟩, HB0.out⟩
end Go.Proofs.Ythllikmnlnakkaa.pr
