/- An instruction as bytes (layer 3). -/
import Derived.Test.YtgkfnplgldigbaaDoorInC
import Derived.Lib.OthersKept
import Derived.Deep.RegionHeld3
namespace Go.Proofs.YtgkfnplgldigbaaDoor.ins
open Go.ChangeShapes Go.WideShapes Go.ChangeAt Go.RowKit
open Go.Proofs.YtgkfnplgldigbaaDoor.bin Go.Proofs.YtgkfnplgldigbaaDoor.bits
set_option linter.unusedVariables false
set_option linter.unusedSimpArgs false
def encL : List UInt8 → List Int → List UInt8
  | [], _ => []
  | c :: f, n :: fs => putB n (wd c) ++ encL f fs
  | _ :: _, [] => []
def pad (l : List UInt8) : List UInt8 := l ++ List.replicate (4 - l.length) 0
def encI (op A B C : Int) : List UInt8 := pad (byteAt op 0 :: encL (frmI op) (three A B C))
theorem pad_step (l : List UInt8) (h : l.length < 4) : pad (l ++ [0]) = pad l := by
  unfold pad
  rw [List.append_assoc, List.length_append]
  congr 1
  rw [show 4 - l.length = (4 - (l.length + 1)) + 1 by omega, List.replicate_succ]
  rfl
theorem pad_full (l : List UInt8) (h : 4 ≤ l.length) : pad l = l := by
  unfold pad
  rw [show 4 - l.length = 0 by omega]
  simp
theorem wd_pos (x : UInt8) : 1 ≤ wd x ∧ wd x ≤ 2 := by unfold wd; split <;> omega
theorem wd_hz (x : UInt8) : hz ((wd x : Nat) : Int) = wd x := by unfold wd; split <;> rfl
theorem width_v (x : UInt8) (hx : Lt x) (w : World) : Calls Tryd.prog 59 #[.int .u8 (x.toNat : Int)] w fun e w' => e = .returned (.int .i64 ((wd x : Nat) : Int)) ∧ w = w' := by
  rcases hx with rfl | rfl | rfl | rfl
  · exact width_1 114 (.inl rfl) w
  · exact width_2 110 (.inl rfl) w
  · exact width_2 116 (.inr rfl) w
  · exact width_1 102 (.inr rfl) w
theorem put_l (s : List UInt8) (n size : Int) (h : Nat) (w : World) (hs : s.length ≤ 1000000) (hh : hz size = h) : Calls Tryd.prog 44 #[.string ⟨s.toArray⟩, .int .i64 n, .int .i64 size] w fun e w' => e = .returned (.string ⟨(s ++ putB n h).toArray⟩) ∧ Below w.heap.size w w' := by
  have hb := hz_bd size
  rw [hh] at hb
  have := put_v ⟨s.toArray⟩ n size h w (by rw [str_size]; exact hs) (Lib.hid hh) hb.1 hb.2
  simpa using this
theorem zero_byte : putB 0 1 = [0] := by decide
theorem kb {W W' : World} {B : Nat} {o : Obj} (h : W.heap[B]? = some o) (hb : Below W.heap.size W W') : W'.heap[B]? = some o :=
  (hb.block B (Array.getElem?_eq_some_iff.1 h).1).trans h
set_option maxRecDepth 20000 in
set_option maxHeartbeats 4000000 in
theorem pput_v (op A B C : Int) (w : World) (ho : 0 ≤ op) (ho2 : op ≤ 25) (hc : chkI op A B C = 0) :
    Calls Tryd.prog 45 #[.agg #[.int .i64 op, .int .i64 A, .int .i64 B, .int .i64 C]] w fun e w' => e = .returned (.tuple #[.string ⟨(encI op A B C).toArray⟩, .int .i64 0]) ∧ Below w.heap.size w w' := by
  have CC := Lib.hid (fun w => pchk_of op A B C 0 w hc)
  obtain ⟨f, hf⟩ : ∃ f, frmI op = f := ⟨_, rfl⟩
  have hfo := frmI_ok op
  rw [hf] at hfo
  have CF := Lib.hid (pf_of op)
  rw [hf] at CF
  have HF := Lib.hid hf
  have HE : Hid (encI op A B C = pad (byteAt op 0 :: encL f (three A B C))) := Lib.hid (by unfold encI; rw [hf])
  obtain ⟨hl, hL0⟩ := hfo
  have hL := Lib.hid hL0
  have hfs := str_size f
  obtain ⟨total, ht⟩ : ∃ t, byteAt op 0 :: encL f (three A B C) = t := ⟨_, rfl⟩
  rw [ht] at HE
  have HT := Lib.hid ht
  clear hc hf hL0 ht
  go_enter Tryd.func45, Tryd.ntmps45
  go_wp2_with fail
  refine (CC.out _).mono ?_
  rintro e w1 ⟨rfl, hb1⟩
  have k0 : w1.heap[w.heap.size]? = some (.cells #[.int .i64 op, .int .i64 A, .int .i64 B, .int .i64 C] 23 (0, 0)) := kb (heap_new w _ _) hb1
  have hB1 : Below w.heap.size w w1 := tr3 (by go_grown) hb1
  have c0 : w1.cell? ⟨w.heap.size, 0, none⟩ = some (.int .i64 op) := by simp [World.cell?, k0]
  have HB1 := Lib.hid hB1
  have K0 := Lib.hid k0
  clear hb1 k0 hB1
  go_wp2_with fail
  refine (put_l [] op 1 1 w1 (by simp) rfl).mono ?_
  rintro e w2 ⟨rfl, hb2⟩
  have k0 := kb K0.out hb2
  have c0' : w2.cell? ⟨w.heap.size, 0, none⟩ = some (.int .i64 op) := by simp [World.cell?, k0]
  have c1' : w2.cell? ⟨w.heap.size, 1, none⟩ = some (.int .i64 A) := by simp [World.cell?, k0]
  have c2' : w2.cell? ⟨w.heap.size, 2, none⟩ = some (.int .i64 B) := by simp [World.cell?, k0]
  have c3' : w2.cell? ⟨w.heap.size, 3, none⟩ = some (.int .i64 C) := by simp [World.cell?, k0]
  have hB2 := tr3 HB1.out hb2
  obtain ⟨FB, hFB⟩ : ∃ FB, w2.heap.size = FB := ⟨_, rfl⟩
  obtain ⟨W, hW⟩ : ∃ W, (w2.alloc (.cells #[.int .i64 A, .int .i64 B, .int .i64 C] 48)).iter ⟨f.toArray⟩ 0 = W := ⟨_, rfl⟩
  have hit : W.heap[FB + 1]? = some (.stringIter ⟨f.toArray⟩ 0) := by
    rw [← hW, ← hFB]
    have := World.iter_heap (w2.alloc (.cells #[.int .i64 A, .int .i64 B, .int .i64 C] 48)) ⟨f.toArray⟩ 0
    simpa using this
  have hfb : W.heap[FB]? = some (.cells #[.int .i64 A, .int .i64 B, .int .i64 C] 48 (0, 0)) := by
    rw [← hW, ← hFB]
    exact kb (heap_new w2 _ _) (by unfold World.iter; exact (Below.refl _ _).alloc (Nat.le_refl _) _)
  have hB3 : Below w.heap.size w W := tr3 hB2 (by rw [← hW]; unfold World.iter; go_grown)
  have HI := Lib.hid hit
  have HFB := Lib.hid hfb
  have HB3 := Lib.hid hB3
  have HW := Lib.hid hW
  have HFBS := Lib.hid hFB
  have hwf : Hid (w.heap.size ≤ FB) := Lib.hid (by rw [← hFB]; exact hB2.size)
  have h0 : Hid (putB op 1 ++ encL (f.drop 0) ((three A B C).drop 0) = total) := Lib.hid HT.out
  have hp1 : (putB op 1).length = 1 := putB_len op 1
  clear hb2 k0 hB2 hit hfb hB3 hW c0 HB1 K0
  simp only [List.nil_append]
  obtain ⟨s1, hs1⟩ : ∃ s, putB op 1 = s := ⟨_, rfl⟩
  rw [hs1] at h0 hp1 ⊢
  clear hs1
  go_wp2_with (go_at_call 23; (refine (CF.out _).mono ?_); rintro e w' ⟨rfl, rfl⟩)
  rw [HW.out]
  clear hFB HFBS HW
  go_loopw [5] (fun v wr => ∃ (pos : Nat) (s : List UInt8), v = .string ⟨s.toArray⟩ ∧ pos ≤ f.length ∧ s.length ≤ 1 + 2 * pos ∧ Hid (wr.heap[FB + 1]? = some (.stringIter ⟨f.toArray⟩ pos)) ∧ Hid (wr.heap[FB]? = some (.cells #[.int .i64 A, .int .i64 B, .int .i64 C] 48 (0, 0))) ∧ Hid (Below w.heap.size w wr) ∧ Hid (s ++ encL (f.drop pos) ((three A B C).drop pos) = total)) (fun _ wr => f.length - wr.iterPos (FB + 1))
  case atStart => exact ⟨0, s1, rfl, by omega, by omega, HI, HFB, HB3, h0⟩
  case round =>
    clear h0 HI HFB HB3 hp1
    obtain ⟨pos, s, rfl, hpl, hsl, HI, HFB, HB, HC⟩ := hrel
    by_cases hlt : pos < f.length
    · have hps : pos < (⟨f.toArray⟩ : ByteArray).size := by rw [hfs]; exact hlt
      have hxL : Lt (f.getD pos 0) := getD_Lt hL.out hlt
      have hat := str_at f pos hps
      have hd : f.drop pos = f.getD pos 0 :: f.drop (pos + 1) := drop_at f 0 pos hlt
      have hd3 : (three A B C).drop pos = (three A B C).getD pos 0 :: (three A B C).drop (pos + 1) := drop_at _ 0 pos (by simp [three]; omega)
      obtain ⟨W2, hW2⟩ : ∃ W2, wr.iterAt (FB + 1) ⟨f.toArray⟩ (pos + 1) = W2 := ⟨_, rfl⟩
      have hi2 : W2.heap[FB + 1]? = some (.stringIter ⟨f.toArray⟩ (pos + 1)) := by rw [← hW2]; exact Lib.iterAt_heap wr _ _ pos _ HI.out
      have hf2 : W2.heap[FB]? = some (.cells #[.int .i64 A, .int .i64 B, .int .i64 C] 48 (0, 0)) := by rw [← hW2, Lib.iterAt_other _ _ _ _ _ (by omega)]; exact HFB.out
      have hb2 : Below w.heap.size w W2 := by rw [← hW2]; exact Lib.below_iterAt HB.out (Nat.le_trans hwf.out (by omega)) _ _
      have hcl := three_cell hf2 pos (by omega)
      obtain ⟨x, hx⟩ : ∃ x, f.getD pos 0 = x := ⟨_, rfl⟩
      obtain ⟨n, hn⟩ : ∃ n, (three A B C).getD pos 0 = n := ⟨_, rfl⟩
      rw [hx] at hxL hat hd
      rw [hn] at hd3 hcl
      have HC1 : Hid ((s ++ putB n (wd x)) ++ encL (f.drop (pos + 1)) ((three A B C).drop (pos + 1)) = total) := Lib.hid (by rw [← HC.out, hd, hd3, encL, List.append_assoc])
      have hnx : ∀ ty, (Instr.next (.pointer (some ⟨FB + 1, 0, none⟩)) true ty).run Tryd.prog wr = .ok (.tuple #[.bool true, .int .i64 pos, .int .i32 (x.toNat : Int)]) W2 := fun ty => by
        rw [← hat, ← hW2]
        exact Lib.run_next_ascii_at (P := Tryd.prog) wr (FB + 1) ⟨f.toArray⟩ pos ty HI.out hps (by rw [hat]; exact lt_128 x hxL)
      have hplI : (pos : Int) < (f.length : Int) := by omega
      have hp3 : (pos : Int) < 3 := by omega
      have hp0 : (0 : Int) ≤ (pos : Int) := by omega
      have hbl2 : FB < W2.heap.size := (Array.getElem?_eq_some_iff.1 hf2).1
      have hwd := wd_pos x
      have hpb := putB_len n (wd x)
      have CWd := Lib.hid (fun w => width_v x hxL w)
      have CP := Lib.hid (fun w => put_l s n ((wd x : Nat) : Int) (wd x) w (by omega) (wd_hz x))
      have HI2 := Lib.hid hi2
      have HF2 := Lib.hid hf2
      have HB2 := Lib.hid hb2
      have HK : Hid (∀ w', Below W2.heap.size W2 w' → Below W2.heap.size W2 w' ∧ w'.cell? ⟨FB, pos, none⟩ = some (.int .i64 n)) := Lib.hid fun w' hb => ⟨hb, (hb.cell (p := ⟨FB, pos, none⟩) hbl2).trans hcl⟩
      have HI0 := HI
      clear hx hn hd hd3 HC hxL hi2 hf2 hb2 hW2 hcl HI HFB HB
      go_wp2_with fail
      go_region_held3 (fun w' => Below W2.heap.size W2 w' ∧ w'.cell? ⟨FB, pos, none⟩ = some (.int .i64 n)) (first | (with_reducible assumption) | exact HK.out _ (Below.refl _ _) | exact HK.out _ hb7 | (refine HK.out _ ?_; go_grown; done))
        (first | (go_at_call 59; (with_reducible refine (CWd.out _).mono ?_); rintro e w5 ⟨rfl, rfl⟩) | (go_at_call 44; (with_reducible refine (CP.out _).mono ?_); rintro e w6 ⟨rfl, hb6⟩; have hb7 : Below W2.heap.size W2 w6 := Below.trans (by go_grown) (hb6.mono (by go_grown))))
      all_goals
        have HI3 := Lib.hid (kb HI2.out hb7)
        have HF3 := Lib.hid (kb HF2.out hb7)
        have HB3 := Lib.hid (tr3 HB2.out hb7)
        have hip : wr.iterPos (FB + 1) = pos := by unfold World.iterPos; rw [HI0.out]
        have hip2 : w6.iterPos (FB + 1) = pos + 1 := by unfold World.iterPos; rw [HI3.out]
        clear HK hb6 hb7
        go_wp2_with fail
        go_roundw
        case rel => exact ⟨pos + 1, _, rfl, by omega, by rw [List.length_append, hpb]; omega, HI3, HF3, HB3, HC1⟩
        case measure => omega
    · obtain rfl : pos = f.length := by omega
      have hnx : ∀ ty, (Instr.next (.pointer (some ⟨FB + 1, 0, none⟩)) true ty).run Tryd.prog wr = .ok (.tuple #[.bool false]) wr := fun ty => Lib.run_next_end_at (P := Tryd.prog) wr (FB + 1) ⟨f.toArray⟩ f.length ty HI.out (by rw [hfs]; omega)
      have hst : s = total := by have := HC.out; rw [List.drop_length] at this; simpa [encL] using this
      subst hst
      have hB := HB
      have hp0 : Hid (pad s = pad s) := Lib.hid rfl
      obtain ⟨tt, htt⟩ : ∃ t, pad s = t := ⟨_, rfl⟩
      rw [htt] at HE
      have hP : Hid (pad s = tt) := Lib.hid htt
      have hsl7 : s.length ≤ 7 := by omega
      clear HC HI HFB HB HT htt hp0
      go_wp2_with fail
      go_loopw [5] (fun v wr => ∃ (s : List UInt8), v = .string ⟨s.toArray⟩ ∧ s.length ≤ 7 ∧ Hid (Below w.heap.size w wr) ∧ Hid (pad s = tt)) (fun v _ => match v with | .string b => 7 - b.size | _ => 0)
      case atStart => exact ⟨s, rfl, hsl7, hB, hP⟩
      case round =>
        clear hB hP hsl7
        obtain ⟨s2, rfl, hs7, HB, HP⟩ := hrel
        have hs2 := str_size s2
        by_cases h4 : s2.length < 4
        · have h4I : (s2.length : Int) < 4 := by omega
          have CP := Lib.hid (fun w => put_l s2 0 1 1 w (by omega) rfl)
          rw [zero_byte] at CP
          have HP1 : Hid (pad (s2 ++ [0]) = tt) := Lib.hid (by rw [pad_step _ h4]; exact HP.out)
          go_wp2_with (go_at_call 44; (with_reducible refine (CP.out _).mono ?_); rintro e w6 ⟨rfl, hb6⟩)
          have HB6 := Lib.hid (tr3 HB.out hb6)
          clear hb6
          go_roundw
          case rel => exact ⟨_, rfl, by simp; omega, HB6, HP1⟩
          case measure => simp [str_size]; omega
        · have h4I : ¬ (s2.length : Int) < 4 := by omega
          have hfin : Hid (s2 = tt) := Lib.hid (by rw [← HP.out, pad_full _ (by omega)])
          clear HP
          go_wp2_with fail
          go_ret2
          exact ⟨by rw [HE.out, ← hfin.out]; rfl, HB.out⟩
theorem chkI_op {op A B C : Int} (h : chkI op A B C = 0) : 0 ≤ op ∧ op ≤ 25 := by
  unfold chkI at h
  by_cases h1 : op < 0 ∨ 25 < op
  · rw [if_pos h1] at h; omega
  · omega
theorem pput_of (op A B C c : Int) (w : World) (hc : chkI op A B C = c) :
    Calls Tryd.prog 45 #[.agg #[.int .i64 op, .int .i64 A, .int .i64 B, .int .i64 C]] w fun e w' => e = .returned (.tuple #[.string ⟨(if c = 0 then encI op A B C else []).toArray⟩, .int .i64 c]) ∧ Below w.heap.size w w' := by
  by_cases h0 : c = 0
  · subst h0
    rw [if_pos rfl]
    obtain ⟨h1, h2⟩ := chkI_op hc
    exact pput_v op A B C w h1 h2 hc
  · rw [if_neg h0]
    have CC := Lib.hid (fun w => pchk_of op A B C c w hc)
    have hcb : (c == 0) = false := by simpa using h0
    have hcn : (c != 0) = true := by simpa using h0
    clear hc
    go_enter Tryd.func45, Tryd.ntmps45
    go_wp2_with fail
    refine (CC.out _).mono ?_
    rintro e w1 ⟨rfl, hb1⟩
    have hB1 : Below w.heap.size w w1 := tr3 (by go_grown) hb1
    clear hb1
    go_wp2_with fail
    go_ret2
    exact ⟨rfl, hB1⟩
theorem str_app (s : List UInt8) : (⟨s.toArray⟩ : ByteArray) ++ ⟨#[0]⟩ = ⟨(s ++ [0]).toArray⟩ := by
  rw [ByteArray.ext_iff, ByteArray.data_append]
  apply Array.ext'
  simp

end Go.Proofs.YtgkfnplgldigbaaDoor.ins
