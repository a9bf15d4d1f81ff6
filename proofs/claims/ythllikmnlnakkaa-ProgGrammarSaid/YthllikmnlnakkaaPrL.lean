/- The program that bytes are (layer 4). -/
import Derived.Test.YthllikmnlnakkaaPrK
namespace Go.Proofs.Ythllikmnlnakkaa.pr
open Go.ChangeShapes Go.WideShapes Go.ChangeAt Go.RowKit
open Go.Proofs.Ythllikmnlnakkaa.bin Go.Proofs.Ythllikmnlnakkaa.bits Go.Proofs.Ythllikmnlnakkaa.ins
set_option linter.unusedVariables false
set_option linter.unusedSimpArgs false
theorem wp_skip_seq {c : Code} {Q : Exit → Act → World → Prop} {a : Act} {w : World} (h : c.wp Try.prog Q a w) : (Code.seq .skip c).wp Try.prog Q a w := wp_seq (wp_skip h)
theorem H2' {w0 : World} {res : R3} {a : Act} {w : World} {n : Nat} (h : J2 w0 res a w) (hn : mu 2 a ≤ n) : (R13 2).wp Try.prog (QG w0 res (KG w0 res n)) a w := by
  obtain ⟨n', rfl, h3⟩ := H2 w0 res a w h
  exact KG.mono hn h3
theorem HG.init (w : World) : HG w (((w.alloc (.cells #[.int .i64 0, .slice none 0 0] 24)).alloc (.cells #[.int .i64 0, .slice none 0 0] 24)).alloc (.cells #[.int .i64 0, .int .i64 0, .int .i64 0, .int .i64 0] 40)) 0 (.slice none 0 0) [] [] := by
  have r0 := heap_new w #[.int .i64 0, .slice none 0 0] 24
  have r1 := heap_new (w.alloc (.cells #[.int .i64 0, .slice none 0 0] 24)) #[.int .i64 0, .slice none 0 0] 24
  have r2 := heap_new ((w.alloc (.cells #[.int .i64 0, .slice none 0 0] 24)).alloc (.cells #[.int .i64 0, .slice none 0 0] 24)) #[.int .i64 0, .int .i64 0, .int .i64 0, .int .i64 0] 40
  refine ⟨kb r0 (by go_grown), ?_, ⟨0, 0, 0, 0, ?_⟩, OP.nil _ _, by go_grown⟩
  · have := kb r1 (W' := ((w.alloc (.cells #[.int .i64 0, .slice none 0 0] 24)).alloc (.cells #[.int .i64 0, .slice none 0 0] 24)).alloc (.cells #[.int .i64 0, .int .i64 0, .int .i64 0, .int .i64 0] 40)) (by go_grown)
    simpa using this
  · simpa using r2
theorem HG.mem {w0 w : World} {m : Int} {v : Value} {rows : List Value} {acc : List (List I4)} (h : HG w0 w m v rows acc) (m' : Int) : HG w0 (w.setCell ⟨w0.heap.size + 1, 0, none⟩ (.int .i64 m')) m' v rows acc := by
  obtain ⟨a, b, c, d, h2⟩ := h.r2
  exact ⟨(set_oth _ _ _ _ _ (by omega)).trans h.r0, set_blk _ _ _ _ h.r1, ⟨a, b, c, d, (set_oth _ _ _ _ _ (by omega)).trans h2⟩, h.own.keep (fun k hk => set_oth _ _ _ _ _ (by omega)), h.bel.setCell (p := ⟨w0.heap.size + 1, 0, none⟩) (by show w0.heap.size ≤ w0.heap.size + 1; omega) _⟩
def cellAt (w : World) (p : Addr) : Value := (w.cell? p).getD undef
def Sg (w0 w : World) : Prop := w.cell? ⟨w0.heap.size + 1, 0, none⟩ = some (cellAt w ⟨w0.heap.size + 1, 0, none⟩) ∧ w.frozen? ⟨w0.heap.size + 1, 0, none⟩ = false
theorem HG.sg {w0 w : World} {m : Int} {v : Value} {rows : List Value} {acc : List (List I4)} (h : HG w0 w m v rows acc) : w.cell? ⟨w0.heap.size + 1, 0, none⟩ = some (cellAt w ⟨w0.heap.size + 1, 0, none⟩) ∧ w.frozen? ⟨w0.heap.size + 1, 0, none⟩ = false := by
  obtain ⟨c0, c1, f0, f1⟩ := cel2 h.r1
  refine ⟨?_, f0⟩
  unfold cellAt
  rw [c0]
  rfl
set_option maxRecDepth 20000 in
set_option maxHeartbeats 800000 in
theorem get_v (s : List UInt8) (w : World) (res : R3) (hs : s.length ≤ 1000000) (hr : getP s = res) :
    Calls Try.prog 13 #[.string ⟨s.toArray⟩] w fun e w' => GP w res e w' := by
  have hfs := str_size s
  have hI := Lib.hid (HG.init w)
  unfold getP at hr
  go_enter Try.func13, Try.ntmps13
  go_wp2_with fail
  refine wp_scope_labels (JG w res) (fun l a _ => mu l a) ?_ ?_
  · by_cases h6 : s.length < 6
    · rw [if_pos h6] at hr
      have h6i : (s.length : Int) < 6 := by omega
      go_wp2_with fail
      go_step3
      exact (JG.wrong (n := 1) (by decide) ⟨rfl, rfl, rfl, rfl, rfl⟩ hI.out rfl hr).1
    · rw [if_neg h6] at hr
      have h6i : ¬ (s.length : Int) < 6 := by omega
      have h3i : (3 : Int) ≤ s.length := by omega
      have h4i : (4 : Int) ≤ s.length := by omega
      have h6j : (6 : Int) ≤ s.length := by omega
      have hex : (⟨s.toArray⟩ : ByteArray).extract 0 3 = ⟨(s.take 3).toArray⟩ := by
        have := str_sub s 0 3
        simpa using this
      obtain ⟨s3, hs3⟩ : ∃ s3, s.take 3 = s3 := ⟨_, rfl⟩
      rw [hs3] at hr hex
      by_cases hm : s3 = [72, 82, 1]
      · rw [if_neg (by simpa using hm)] at hr
        subst hm
        obtain ⟨W, hW⟩ : ∃ W, (((w.alloc (.cells #[.int .i64 0, .slice none 0 0] 24)).alloc (.cells #[.int .i64 0, .slice none 0 0] 24)).alloc (.cells #[.int .i64 0, .int .i64 0, .int .i64 0, .int .i64 0] 40)) = W := ⟨_, rfl⟩
        rw [hW] at hI
        have HW := Lib.hid hW
        have hd3 : (⟨s.toArray⟩ : ByteArray).extract 3 s.length = ⟨(s.drop 3).toArray⟩ := by
          have := str_drop s 3
          rwa [str_size] at this
        have hd4 : (⟨s.toArray⟩ : ByteArray).extract 4 s.length = ⟨(s.drop 4).toArray⟩ := by
          have := str_drop s 4
          rwa [str_size] at this
        have hd6 : (⟨s.toArray⟩ : ByteArray).extract 6 s.length = ⟨(s.drop 6).toArray⟩ := by
          have := str_drop s 6
          rwa [str_size] at this
        have CN1 := Lib.hid (fun w => number_v (s.drop 3) 1 1 w rfl (by rw [List.length_drop]; omega) (by rw [List.length_drop]; omega))
        have CN2 := Lib.hid (fun w => number_v (s.drop 4) 2 2 w rfl (by rw [List.length_drop]; omega) (by rw [List.length_drop]; omega))
        obtain ⟨n, hn⟩ : ∃ n, gN s = n := ⟨_, rfl⟩
        obtain ⟨m, hm⟩ : ∃ m, gM s = m := ⟨_, rfl⟩
        rw [hn, hm] at hr
        unfold gN at hn
        unfold gM at hm
        rw [hn] at CN1
        rw [hm] at CN2
        have h6l : (s.drop 6).length ≤ 1000000 := by rw [List.length_drop]; omega
        obtain ⟨s5, hs5⟩ : ∃ t, s.drop 3 = t := ⟨_, rfl⟩
        obtain ⟨s4, hs4⟩ : ∃ t, s.drop 4 = t := ⟨_, rfl⟩
        obtain ⟨s6, hs6⟩ : ∃ t, s.drop 6 = t := ⟨_, rfl⟩
        rw [hs5] at hd3 CN1
        rw [hs4] at hd4 CN2
        rw [hs6] at hd6 hr h6l
        have HGo : Hid (∀ w' : World, Below W.heap.size W w' → HG w w' 0 (.slice none 0 0) [] []) := Lib.hid fun w' hb => hI.out.below hb
        obtain ⟨e, he⟩ : ∃ e, cntE m n = e := ⟨_, rfl⟩
        rw [he] at hr
        have CC := Lib.hid (fun w => counts_v m n e w he)
        have HE := Lib.hid he
        clear hn hm hs5 hs4 hs6 hW hI hs3 he
        go_wp2_with fail
        rw [HW.out]
        clear HW
        go_region_held3 (fun w' : World => w'.cell? ⟨w.heap.size + 1, 0, none⟩ = some (cellAt w' ⟨w.heap.size + 1, 0, none⟩) ∧ w'.frozen? ⟨w.heap.size + 1, 0, none⟩ = false) (first | (with_reducible assumption) | exact (HGo.out _ (Below.refl _ _)).sg | exact (HGo.out _ hb7).sg | exact (HGo.out _ hb9).sg | exact ((HGo.out _ hb9).mem _).sg | (refine (HGo.out _ ?_).sg; go_grown; done))
          (first | (go_at_call 23; (with_reducible refine (CN1.out _).mono ?_); rintro e' w6 ⟨rfl, hb6⟩; have hb7 : Below W.heap.size W w6 := Below.trans (by go_grown) (hb6.mono (by go_grown))) | (go_at_call 23; (with_reducible refine (CN2.out _).mono ?_); rintro e' w8 ⟨rfl, hb8⟩; have hb9 : Below W.heap.size W w8 := tr3 hb7 hb8))
        have h8 := (HGo.out _ hb9).mem m
        obtain ⟨c0, c1, f0, f1⟩ := cel2 h8.r1
        have hca : cellAt (w8.setCell ⟨w.heap.size + 1, 0, none⟩ (.int .i64 (m : Int))) ⟨w.heap.size + 1, 0, none⟩ = .int .i64 (m : Int) := by unfold cellAt; rw [c0]; rfl
        have H8 := Lib.hid h8
        clear hb6 hb7 hb8 hb9 HGo CN1 CN2 h8
        by_cases he0 : e = 0
        · subst he0
          rw [if_neg (by simp)] at hr
          obtain ⟨_, _, hn1, hn2⟩ := cntE_0 HE.out
          go_wp2_with fail
          with_reducible refine (CC.out _).mono ?_
          rintro e' w' ⟨rfl, rfl⟩
          go_wp2_with fail
          go_step3
          go_step
          go_step
          refine KG.any (H2' ?_ (Nat.le_refl _))
          exact ⟨⟨rfl, rfl, rfl, rfl, rfl⟩, m, .slice none 0 0, [], [], s6, n, H8.out, rfl, rfl, hr, by simpa using hn2, h6l⟩
        · have he0b : (e == 0) = false := by simpa using he0
          have he0n : (e != 0) = true := by simpa using he0
          rw [if_pos he0] at hr
          go_wp2_with fail
          with_reducible refine (CC.out _).mono ?_
          rintro e' w' ⟨rfl, rfl⟩
          go_wp2_with fail
          go_step3
          exact (JG.wrong (n := 1) (by decide) ⟨rfl, rfl, rfl, rfl, rfl⟩ H8.out rfl hr).1
      · rw [if_pos hm] at hr
        have hmb : (s3 == [72, 82, 1]) = false := by simpa using hm
        go_wp2_with fail
        go_step3
        exact (JG.wrong (n := 1) (by decide) ⟨rfl, rfl, rfl, rfl, rfl⟩ hI.out rfl hr).1
  · intro l a w' h
    rcases h with ⟨rfl, h⟩ | ⟨rfl, h⟩ | ⟨rfl, h⟩ | ⟨rfl, h⟩
    · exact ⟨.seq .skip (R13 0), rfl, wp_skip_seq (H0 w res a w' _ h)⟩
    · exact ⟨.seq .skip (R13 1), rfl, wp_skip_seq (KG.mono (by simp [mu]) (H1 w res a w' h))⟩
    · exact ⟨.seq .skip (R13 2), rfl, wp_skip_seq (H2' h (Nat.le_refl _))⟩
    · exact ⟨.seq .skip (R13 3), rfl, wp_skip_seq (H3' h (Nat.le_refl _))⟩
end Go.Proofs.Ythllikmnlnakkaa.pr
