/- Frames by value: three made in one statement, in whatever order their cells are made (layer 16). -/
import Derived.Test.YtajmmglfdinahaaFmA
import Derived.Deep.MidRow
import Derived.Deep.RegionHeld3
import Derived.Deep.DrawnRows
namespace Go.Proofs.Ytajmmglfdinahaa.fm
open Go.ChangeShapes Go.WideShapes Go.ChangeAt Go.RowKit
open Go.Proofs.Ytajmmglfdinahaa.fr
open Go.Proofs.Ytajmmglfdinahaa.ft (range_blk there_blk put_blk below_put)
attribute [local go_sem ↓] Go.wp_at_zero Go.wp_at_succ
set_option linter.unusedVariables false
set_option linter.unusedSimpArgs false
def lft : Code → Code
  | .seq a _ => a
  | _ => .skip
def rgt : Code → Code
  | .seq _ b => b
  | _ => .skip
def opsAt : Code → Array Oper
  | .region _ o _ => o
  | _ => #[]
noncomputable def c4 : Code := lft (rgt (rgt (rgt (Try.f8.body.getD .skip))))
noncomputable def ops4 : Array Oper := opsAt c4
set_option maxRecDepth 20000 in
set_option maxHeartbeats 4000000 in
theorem st_3_012 {x : Fm} {own fn serial : Int} {B : Nat} {wR w : World} {u0 u5 u6 u7 u8 u9 u10 u11 u12 u13 u14 u15 u19 u24 u27 u28 u29 u30 u31 u32 u33 u34 u35 u36 u37 u38 u39 u40 u41 u42 u43 u44 u45 u46 u47 u48 u49 u50 u51 u52 u53 u54 u55 u56 u57 u58 u59 u60 u61 u62 u63 u64 u65 u66 : Value} {Q : Exit → Act → World → Prop} {a10 a11 a12 : Nat} (hB : wR.heap[B]? = some (.cells x.cs 67 (0, 0))) (hb : Below wR.heap.size wR w) (g10 : wR.heap.size ≤ a10) (h10 : w.heap[a10]? = some (.cells #[.int .i64 0, .int .i64 0, .int .i64 0, .int .i64 0, .int .i64 0, .int .i64 0, .int .i64 0, .int .i64 0, .int .i64 0, .int .i64 0, .int .i64 0, .int .i64 0, .bool false, .bool false, .int .i64 0, .int .i64 0, .int .i64 0, .int .i64 0, .int .i64 0] 67 (0, 0))) (g11 : wR.heap.size ≤ a11) (h11 : w.heap[a11]? = some (.cells #[.int .i64 0, .int .i64 0, .int .i64 0, .int .i64 0, .int .i64 0, .int .i64 0, .int .i64 0, .int .i64 0, .int .i64 0, .int .i64 0, .int .i64 0, .int .i64 0, .bool false, .bool false, .int .i64 0, .int .i64 0, .int .i64 0, .int .i64 0, .int .i64 0] 67 (0, 0))) (g12 : wR.heap.size ≤ a12) (h12 : w.heap[a12]? = some (.cells #[.int .i64 0, .int .i64 0, .int .i64 0, .int .i64 0, .int .i64 0, .int .i64 0, .int .i64 0, .int .i64 0, .int .i64 0, .int .i64 0, .int .i64 0, .int .i64 0, .bool false, .bool false, .int .i64 0, .int .i64 0, .int .i64 0, .int .i64 0, .int .i64 0] 67 (0, 0))) (n10_11 : a10 ≠ a11) (n10_12 : a10 ≠ a12) (n11_12 : a11 ≠ a12)
    (hN : ∀ (a10 a11 a12 : Nat) (w' : World), Below wR.heap.size wR w' → w'.heap[a10]? = some (.cells (x.child own fn).cs 67 (0, 0)) → w'.heap[a11]? = some (.cells (x.loop own fn serial).cs 67 (0, 0)) → w'.heap[a12]? = some (.cells (x.iter own).cs 67 (0, 0)) → Q .normal ⟨#[u0, .int .i64 own, .int .i64 fn, .int .i64 serial, .pointer (some ⟨B, 0, none⟩), u5, u6, u7, u8, u9, .pointer (some ⟨a10, 0, none⟩), .pointer (some ⟨a11, 0, none⟩), .pointer (some ⟨a12, 0, none⟩), u13, u14, u15, .agg x.cs, .int .i64 own, .int .i64 fn, .agg (x.child own fn).cs, .agg x.cs, .int .i64 own, .int .i64 fn, .int .i64 serial, .agg (x.loop own fn serial).cs, .agg x.cs, .int .i64 own, .agg (x.iter own).cs, u28, u29, u30, u31, u32, u33, u34, u35, u36, u37, u38, u39, u40, u41, u42, u43, u44, u45, u46, u47, u48, u49, u50, u51, u52, u53, u54, u55, u56, u57, u58, u59, u60, u61, u62, u63, u64, u65, u66], []⟩ w') :
    wpAnyH Try.prog .any ops4 Q (fun w' => w'.heap[B]? = some (.cells x.cs 67 (0, 0))) 3 #[true, true, true, true, true, true, true, true, true, true, true, true, true, true, true, false, false, false] ⟨#[u0, .int .i64 own, .int .i64 fn, .int .i64 serial, .pointer (some ⟨B, 0, none⟩), u5, u6, u7, u8, u9, .pointer (some ⟨a10, 0, none⟩), .pointer (some ⟨a11, 0, none⟩), .pointer (some ⟨a12, 0, none⟩), u13, u14, u15, .agg x.cs, .int .i64 own, .int .i64 fn, .agg (x.child own fn).cs, .agg x.cs, .int .i64 own, .int .i64 fn, .int .i64 serial, .agg (x.loop own fn serial).cs, .agg x.cs, .int .i64 own, .agg (x.iter own).cs, u28, u29, u30, u31, u32, u33, u34, u35, u36, u37, u38, u39, u40, u41, u42, u43, u44, u45, u46, u47, u48, u49, u50, u51, u52, u53, u54, u55, u56, u57, u58, u59, u60, u61, u62, u63, u64, u65, u66], []⟩ w := by
  have hl10 := lt_of_heap h10
  have hl11 := lt_of_heap h11
  have hl12 := lt_of_heap h12
  refine wpAnyH_ready (rs := [15]) (by kernel_rfl) (by simp) ?_
  refine AllReadyH.cons (o := { dst := none, op := Go.Op.store 67 (Go.Operand.tmp 10) (Go.Operand.tmp 19), type := 0, pos := "law.go:33", after := #[{ on := 12, ground := Go.Ground.data }, { on := 3, ground := Go.Ground.data }, { on := 11, ground := Go.Ground.chain }, { on := 0, ground := Go.Ground.phase }, { on := 1, ground := Go.Ground.phase }, { on := 2, ground := Go.Ground.phase }, { on := 3, ground := Go.Ground.phase }, { on := 4, ground := Go.Ground.textOnly Go.Departure.lateStores }, { on := 5, ground := Go.Ground.textOnly Go.Departure.lateStores }, { on := 6, ground := Go.Ground.textOnly Go.Departure.lateStores }, { on := 7, ground := Go.Ground.textOnly Go.Departure.lateStores }, { on := 8, ground := Go.Ground.textOnly Go.Departure.lateStoresUnsure }, { on := 9, ground := Go.Ground.textOnly Go.Departure.lateStores }, { on := 10, ground := Go.Ground.textOnly Go.Departure.lateStores }, { on := 11, ground := Go.Ground.textOnly Go.Departure.lateStoresUnsure }, { on := 12, ground := Go.Ground.phase }, { on := 13, ground := Go.Ground.phase }, { on := 14, ground := Go.Ground.phase }], guard := none }) rfl (fun K hK => ?_) AllReadyH.nil
  rw [if_pos (by rfl)]
  refine wp_store_mid _ _ _ rfl a10 0 (x.child own fn).cs rfl rfl (fun j hj => there_blk h10 j hj) (by rw [infoF]; rfl) (by simp [Value.oneCell', Fm.cs]) ?_
  obtain ⟨p10, s10, o10⟩ := put_blk (vs := (x.child own fn).cs) h10 rfl
  have hb10 := below_put a10 g10 (Array.toList (x.child own fn).cs) 0 hb
  obtain ⟨w10, hw10⟩ : ∃ w10, World.setCells w a10 0 (Array.toList (x.child own fn).cs) = w10 := ⟨_, rfl⟩
  rw [hw10] at p10 s10 o10 hb10
  rw [hw10]
  refine hK.out _ _ ((hb10.block B (lt_of_heap hB)).trans hB) (fun _ => ?_)
  clear hK K
  try simp only [Act.put, List.setIfInBounds_toArray, List.set_cons_zero, List.set_cons_succ]
  have q10_11 := (o10 a11 (Ne.symm n10_11)).trans h11
  have q10_12 := (o10 a12 (Ne.symm n10_12)).trans h12
  refine wpAnyH_ready (rs := [16]) (by kernel_rfl) (by simp) ?_
  refine AllReadyH.cons (o := { dst := none, op := Go.Op.store 67 (Go.Operand.tmp 11) (Go.Operand.tmp 24), type := 0, pos := "law.go:33", after := #[{ on := 13, ground := Go.Ground.data }, { on := 8, ground := Go.Ground.data }, { on := 15, ground := Go.Ground.chain }, { on := 0, ground := Go.Ground.phase }, { on := 1, ground := Go.Ground.phase }, { on := 2, ground := Go.Ground.phase }, { on := 3, ground := Go.Ground.phase }, { on := 4, ground := Go.Ground.phase }, { on := 5, ground := Go.Ground.phase }, { on := 6, ground := Go.Ground.phase }, { on := 7, ground := Go.Ground.phase }, { on := 8, ground := Go.Ground.phase }, { on := 9, ground := Go.Ground.textOnly Go.Departure.lateStores }, { on := 10, ground := Go.Ground.textOnly Go.Departure.lateStores }, { on := 11, ground := Go.Ground.textOnly Go.Departure.lateStoresUnsure }, { on := 12, ground := Go.Ground.phase }, { on := 13, ground := Go.Ground.phase }, { on := 14, ground := Go.Ground.phase }, { on := 15, ground := Go.Ground.phase }], guard := none }) rfl (fun K hK => ?_) AllReadyH.nil
  rw [if_pos (by rfl)]
  refine wp_store_mid _ _ _ rfl a11 0 (x.loop own fn serial).cs rfl rfl (fun j hj => there_blk q10_11 j hj) (by rw [infoF]; rfl) (by simp [Value.oneCell', Fm.cs]) ?_
  obtain ⟨p11, s11, o11⟩ := put_blk (vs := (x.loop own fn serial).cs) q10_11 rfl
  have hb11 := below_put a11 g11 (Array.toList (x.loop own fn serial).cs) 0 hb10
  obtain ⟨w11, hw11⟩ : ∃ w11, World.setCells w10 a11 0 (Array.toList (x.loop own fn serial).cs) = w11 := ⟨_, rfl⟩
  rw [hw11] at p11 s11 o11 hb11
  rw [hw11]
  refine hK.out _ _ ((hb11.block B (lt_of_heap hB)).trans hB) (fun _ => ?_)
  clear hK K
  try simp only [Act.put, List.setIfInBounds_toArray, List.set_cons_zero, List.set_cons_succ]
  have q11_10 := (o11 a10 n10_11).trans p10
  have q11_12 := (o11 a12 (Ne.symm n11_12)).trans q10_12
  refine wpAnyH_ready (rs := [17]) (by kernel_rfl) (by simp) ?_
  refine AllReadyH.cons (o := { dst := none, op := Go.Op.store 67 (Go.Operand.tmp 12) (Go.Operand.tmp 27), type := 0, pos := "law.go:33", after := #[{ on := 14, ground := Go.Ground.data }, { on := 11, ground := Go.Ground.data }, { on := 16, ground := Go.Ground.chain }, { on := 0, ground := Go.Ground.phase }, { on := 1, ground := Go.Ground.phase }, { on := 2, ground := Go.Ground.phase }, { on := 3, ground := Go.Ground.phase }, { on := 4, ground := Go.Ground.phase }, { on := 5, ground := Go.Ground.phase }, { on := 6, ground := Go.Ground.phase }, { on := 7, ground := Go.Ground.phase }, { on := 8, ground := Go.Ground.phase }, { on := 9, ground := Go.Ground.phase }, { on := 10, ground := Go.Ground.phase }, { on := 11, ground := Go.Ground.phase }, { on := 12, ground := Go.Ground.phase }, { on := 13, ground := Go.Ground.phase }, { on := 14, ground := Go.Ground.phase }, { on := 15, ground := Go.Ground.phase }, { on := 16, ground := Go.Ground.phase }], guard := none }) rfl (fun K hK => ?_) AllReadyH.nil
  rw [if_pos (by rfl)]
  refine wp_store_mid _ _ _ rfl a12 0 (x.iter own).cs rfl rfl (fun j hj => there_blk q11_12 j hj) (by rw [infoF]; rfl) (by simp [Value.oneCell', Fm.cs]) ?_
  obtain ⟨p12, s12, o12⟩ := put_blk (vs := (x.iter own).cs) q11_12 rfl
  have hb12 := below_put a12 g12 (Array.toList (x.iter own).cs) 0 hb11
  obtain ⟨w12, hw12⟩ : ∃ w12, World.setCells w11 a12 0 (Array.toList (x.iter own).cs) = w12 := ⟨_, rfl⟩
  rw [hw12] at p12 s12 o12 hb12
  rw [hw12]
  refine hK.out _ _ ((hb12.block B (lt_of_heap hB)).trans hB) (fun _ => ?_)
  clear hK K
  try simp only [Act.put, List.setIfInBounds_toArray, List.set_cons_zero, List.set_cons_succ]
  have q12_10 := (o12 a10 n10_12).trans q11_10
  have q12_11 := (o12 a11 n11_12).trans p11
  refine wpAnyH_done (by kernel_rfl) ?_ _
  exact hN a10 a11 a12 _ hb12 q12_10 q12_11 p12
set_option maxRecDepth 20000 in
set_option maxHeartbeats 4000000 in
theorem st_2_012 {x : Fm} {own fn serial : Int} {B : Nat} {wR w : World} {u0 u5 u6 u7 u8 u9 u10 u11 u12 u13 u14 u15 u19 u24 u27 u28 u29 u30 u31 u32 u33 u34 u35 u36 u37 u38 u39 u40 u41 u42 u43 u44 u45 u46 u47 u48 u49 u50 u51 u52 u53 u54 u55 u56 u57 u58 u59 u60 u61 u62 u63 u64 u65 u66 : Value} {Q : Exit → Act → World → Prop} {a10 a11 a12 : Nat} (hB : wR.heap[B]? = some (.cells x.cs 67 (0, 0))) (hb : Below wR.heap.size wR w) (g10 : wR.heap.size ≤ a10) (h10 : w.heap[a10]? = some (.cells #[.int .i64 0, .int .i64 0, .int .i64 0, .int .i64 0, .int .i64 0, .int .i64 0, .int .i64 0, .int .i64 0, .int .i64 0, .int .i64 0, .int .i64 0, .int .i64 0, .bool false, .bool false, .int .i64 0, .int .i64 0, .int .i64 0, .int .i64 0, .int .i64 0] 67 (0, 0))) (g11 : wR.heap.size ≤ a11) (h11 : w.heap[a11]? = some (.cells #[.int .i64 0, .int .i64 0, .int .i64 0, .int .i64 0, .int .i64 0, .int .i64 0, .int .i64 0, .int .i64 0, .int .i64 0, .int .i64 0, .int .i64 0, .int .i64 0, .bool false, .bool false, .int .i64 0, .int .i64 0, .int .i64 0, .int .i64 0, .int .i64 0] 67 (0, 0))) (g12 : wR.heap.size ≤ a12) (h12 : w.heap[a12]? = some (.cells #[.int .i64 0, .int .i64 0, .int .i64 0, .int .i64 0, .int .i64 0, .int .i64 0, .int .i64 0, .int .i64 0, .int .i64 0, .int .i64 0, .int .i64 0, .int .i64 0, .bool false, .bool false, .int .i64 0, .int .i64 0, .int .i64 0, .int .i64 0, .int .i64 0] 67 (0, 0))) (n10_11 : a10 ≠ a11) (n10_12 : a10 ≠ a12) (n11_12 : a11 ≠ a12)
    (hN : ∀ (a10 a11 a12 : Nat) (w' : World), Below wR.heap.size wR w' → w'.heap[a10]? = some (.cells (x.child own fn).cs 67 (0, 0)) → w'.heap[a11]? = some (.cells (x.loop own fn serial).cs 67 (0, 0)) → w'.heap[a12]? = some (.cells (x.iter own).cs 67 (0, 0)) → Q .normal ⟨#[u0, .int .i64 own, .int .i64 fn, .int .i64 serial, .pointer (some ⟨B, 0, none⟩), u5, u6, u7, u8, u9, .pointer (some ⟨a10, 0, none⟩), .pointer (some ⟨a11, 0, none⟩), .pointer (some ⟨a12, 0, none⟩), u13, u14, u15, .agg x.cs, .int .i64 own, .int .i64 fn, .agg (x.child own fn).cs, .agg x.cs, .int .i64 own, .int .i64 fn, .int .i64 serial, .agg (x.loop own fn serial).cs, .agg x.cs, .int .i64 own, .agg (x.iter own).cs, u28, u29, u30, u31, u32, u33, u34, u35, u36, u37, u38, u39, u40, u41, u42, u43, u44, u45, u46, u47, u48, u49, u50, u51, u52, u53, u54, u55, u56, u57, u58, u59, u60, u61, u62, u63, u64, u65, u66], []⟩ w') :
    wpAnyH Try.prog .any ops4 Q (fun w' => w'.heap[B]? = some (.cells x.cs 67 (0, 0))) 4 #[true, true, true, true, true, true, true, true, true, true, true, false, true, true, true, false, false, false] ⟨#[u0, .int .i64 own, .int .i64 fn, .int .i64 serial, .pointer (some ⟨B, 0, none⟩), u5, u6, u7, u8, u9, .pointer (some ⟨a10, 0, none⟩), .pointer (some ⟨a11, 0, none⟩), .pointer (some ⟨a12, 0, none⟩), u13, u14, u15, .agg x.cs, .int .i64 own, .int .i64 fn, .agg (x.child own fn).cs, .agg x.cs, .int .i64 own, .int .i64 fn, .int .i64 serial, .agg (x.loop own fn serial).cs, .agg x.cs, .int .i64 own, u27, u28, u29, u30, u31, u32, u33, u34, u35, u36, u37, u38, u39, u40, u41, u42, u43, u44, u45, u46, u47, u48, u49, u50, u51, u52, u53, u54, u55, u56, u57, u58, u59, u60, u61, u62, u63, u64, u65, u66], []⟩ w := by
  refine wpAnyH_ready (rs := [11]) (by kernel_rfl) (by simp) ?_
  refine AllReadyH.cons (o := { dst := some 27, op := Go.Op.call { callee := Go.Callee.value (Go.Operand.func 45), args := #[Go.Operand.tmp 25, Go.Operand.tmp 26], argTypes := #[67, 3] }, type := 67, pos := "law.go:33", after := #[{ on := 9, ground := Go.Ground.data }, { on := 10, ground := Go.Ground.data }, { on := 8, ground := Go.Ground.chain }], guard := none }) rfl (fun K hK => ?_) AllReadyH.nil
  go_simp
  refine (iter_of x own _).mono ?_
  rintro e w5 ⟨rfl, hb5⟩
  try simp only [go_sem]
  have hb6 := hb.trans (hb5.mono hb.size)
  have k10 := (hb5.block a10 (lt_of_heap h10)).trans h10
  have k11 := (hb5.block a11 (lt_of_heap h11)).trans h11
  have k12 := (hb5.block a12 (lt_of_heap h12)).trans h12
  refine hK.out _ _ ((hb6.block B (lt_of_heap hB)).trans hB) (fun _ => ?_)
  clear hK K
  try simp only [Act.put, List.setIfInBounds_toArray, List.set_cons_zero, List.set_cons_succ]
  exact st_3_012 (u10 := undef) (u11 := undef) (u12 := undef) (u19 := undef) (u24 := undef) (u27 := undef) hB hb6 g10 k10 g11 k11 g12 k12 n10_11 n10_12 n11_12 hN
set_option maxRecDepth 20000 in
set_option maxHeartbeats 4000000 in
theorem st_3_01 {x : Fm} {own fn serial : Int} {B : Nat} {wR w : World} {u0 u5 u6 u7 u8 u9 u10 u11 u12 u13 u14 u15 u19 u24 u27 u28 u29 u30 u31 u32 u33 u34 u35 u36 u37 u38 u39 u40 u41 u42 u43 u44 u45 u46 u47 u48 u49 u50 u51 u52 u53 u54 u55 u56 u57 u58 u59 u60 u61 u62 u63 u64 u65 u66 : Value} {Q : Exit → Act → World → Prop} {a10 a11 : Nat} (hB : wR.heap[B]? = some (.cells x.cs 67 (0, 0))) (hb : Below wR.heap.size wR w) (g10 : wR.heap.size ≤ a10) (h10 : w.heap[a10]? = some (.cells #[.int .i64 0, .int .i64 0, .int .i64 0, .int .i64 0, .int .i64 0, .int .i64 0, .int .i64 0, .int .i64 0, .int .i64 0, .int .i64 0, .int .i64 0, .int .i64 0, .bool false, .bool false, .int .i64 0, .int .i64 0, .int .i64 0, .int .i64 0, .int .i64 0] 67 (0, 0))) (g11 : wR.heap.size ≤ a11) (h11 : w.heap[a11]? = some (.cells #[.int .i64 0, .int .i64 0, .int .i64 0, .int .i64 0, .int .i64 0, .int .i64 0, .int .i64 0, .int .i64 0, .int .i64 0, .int .i64 0, .int .i64 0, .int .i64 0, .bool false, .bool false, .int .i64 0, .int .i64 0, .int .i64 0, .int .i64 0, .int .i64 0] 67 (0, 0))) (n10_11 : a10 ≠ a11)
    (hN : ∀ (a10 a11 a12 : Nat) (w' : World), Below wR.heap.size wR w' → w'.heap[a10]? = some (.cells (x.child own fn).cs 67 (0, 0)) → w'.heap[a11]? = some (.cells (x.loop own fn serial).cs 67 (0, 0)) → w'.heap[a12]? = some (.cells (x.iter own).cs 67 (0, 0)) → Q .normal ⟨#[u0, .int .i64 own, .int .i64 fn, .int .i64 serial, .pointer (some ⟨B, 0, none⟩), u5, u6, u7, u8, u9, .pointer (some ⟨a10, 0, none⟩), .pointer (some ⟨a11, 0, none⟩), .pointer (some ⟨a12, 0, none⟩), u13, u14, u15, .agg x.cs, .int .i64 own, .int .i64 fn, .agg (x.child own fn).cs, .agg x.cs, .int .i64 own, .int .i64 fn, .int .i64 serial, .agg (x.loop own fn serial).cs, .agg x.cs, .int .i64 own, .agg (x.iter own).cs, u28, u29, u30, u31, u32, u33, u34, u35, u36, u37, u38, u39, u40, u41, u42, u43, u44, u45, u46, u47, u48, u49, u50, u51, u52, u53, u54, u55, u56, u57, u58, u59, u60, u61, u62, u63, u64, u65, u66], []⟩ w') :
    wpAnyH Try.prog .any ops4 Q (fun w' => w'.heap[B]? = some (.cells x.cs 67 (0, 0))) 4 #[true, true, true, true, true, true, true, true, true, true, true, true, true, true, false, false, false, false] ⟨#[u0, .int .i64 own, .int .i64 fn, .int .i64 serial, .pointer (some ⟨B, 0, none⟩), u5, u6, u7, u8, u9, .pointer (some ⟨a10, 0, none⟩), .pointer (some ⟨a11, 0, none⟩), u12, u13, u14, u15, .agg x.cs, .int .i64 own, .int .i64 fn, .agg (x.child own fn).cs, .agg x.cs, .int .i64 own, .int .i64 fn, .int .i64 serial, .agg (x.loop own fn serial).cs, .agg x.cs, .int .i64 own, .agg (x.iter own).cs, u28, u29, u30, u31, u32, u33, u34, u35, u36, u37, u38, u39, u40, u41, u42, u43, u44, u45, u46, u47, u48, u49, u50, u51, u52, u53, u54, u55, u56, u57, u58, u59, u60, u61, u62, u63, u64, u65, u66], []⟩ w := by
  refine wpAnyH_ready (rs := [14]) (by kernel_rfl) (by simp) ?_
  refine AllReadyH.cons (o := { dst := some 12, op := Go.Op.alloc 67, type := 0, pos := "law.go:33", after := #[], guard := none }) rfl (fun K hK => ?_) AllReadyH.nil
  go_simp
  obtain ⟨w5, hw5⟩ : ∃ w5, w.alloc (.cells #[.int .i64 0, .int .i64 0, .int .i64 0, .int .i64 0, .int .i64 0, .int .i64 0, .int .i64 0, .int .i64 0, .int .i64 0, .int .i64 0, .int .i64 0, .int .i64 0, .bool false, .bool false, .int .i64 0, .int .i64 0, .int .i64 0, .int .i64 0, .int .i64 0] 67) = w5 := ⟨_, rfl⟩
  have hn := heap_alloc_new w (.cells #[.int .i64 0, .int .i64 0, .int .i64 0, .int .i64 0, .int .i64 0, .int .i64 0, .int .i64 0, .int .i64 0, .int .i64 0, .int .i64 0, .int .i64 0, .int .i64 0, .bool false, .bool false, .int .i64 0, .int .i64 0, .int .i64 0, .int .i64 0, .int .i64 0] 67)
  have hb5 : Below w.heap.size w w5 := by rw [← hw5]; go_grown
  rw [hw5] at hn
  rw [hw5]
  have hb6 := hb.trans (hb5.mono hb.size)
  have hg := hb.size
  have k10 := (hb5.block a10 (lt_of_heap h10)).trans h10
  have l10 := lt_of_heap h10
  have k11 := (hb5.block a11 (lt_of_heap h11)).trans h11
  have l11 := lt_of_heap h11
  refine hK.out _ _ ((hb6.block B (lt_of_heap hB)).trans hB) (fun _ => ?_)
  clear hK K
  try simp only [Act.put, List.setIfInBounds_toArray, List.set_cons_zero, List.set_cons_succ]
  exact st_3_012 (u10 := undef) (u11 := undef) (u12 := undef) (u19 := undef) (u24 := undef) (u27 := undef) hB hb6 g10 k10 g11 k11 hg hn n10_11 (show a10 ≠ w.heap.size by omega) (show a11 ≠ w.heap.size by omega) hN
set_option maxRecDepth 20000 in
set_option maxHeartbeats 4000000 in
theorem st_3_02 {x : Fm} {own fn serial : Int} {B : Nat} {wR w : World} {u0 u5 u6 u7 u8 u9 u10 u11 u12 u13 u14 u15 u19 u24 u27 u28 u29 u30 u31 u32 u33 u34 u35 u36 u37 u38 u39 u40 u41 u42 u43 u44 u45 u46 u47 u48 u49 u50 u51 u52 u53 u54 u55 u56 u57 u58 u59 u60 u61 u62 u63 u64 u65 u66 : Value} {Q : Exit → Act → World → Prop} {a10 a12 : Nat} (hB : wR.heap[B]? = some (.cells x.cs 67 (0, 0))) (hb : Below wR.heap.size wR w) (g10 : wR.heap.size ≤ a10) (h10 : w.heap[a10]? = some (.cells #[.int .i64 0, .int .i64 0, .int .i64 0, .int .i64 0, .int .i64 0, .int .i64 0, .int .i64 0, .int .i64 0, .int .i64 0, .int .i64 0, .int .i64 0, .int .i64 0, .bool false, .bool false, .int .i64 0, .int .i64 0, .int .i64 0, .int .i64 0, .int .i64 0] 67 (0, 0))) (g12 : wR.heap.size ≤ a12) (h12 : w.heap[a12]? = some (.cells #[.int .i64 0, .int .i64 0, .int .i64 0, .int .i64 0, .int .i64 0, .int .i64 0, .int .i64 0, .int .i64 0, .int .i64 0, .int .i64 0, .int .i64 0, .int .i64 0, .bool false, .bool false, .int .i64 0, .int .i64 0, .int .i64 0, .int .i64 0, .int .i64 0] 67 (0, 0))) (n10_12 : a10 ≠ a12)
    (hN : ∀ (a10 a11 a12 : Nat) (w' : World), Below wR.heap.size wR w' → w'.heap[a10]? = some (.cells (x.child own fn).cs 67 (0, 0)) → w'.heap[a11]? = some (.cells (x.loop own fn serial).cs 67 (0, 0)) → w'.heap[a12]? = some (.cells (x.iter own).cs 67 (0, 0)) → Q .normal ⟨#[u0, .int .i64 own, .int .i64 fn, .int .i64 serial, .pointer (some ⟨B, 0, none⟩), u5, u6, u7, u8, u9, .pointer (some ⟨a10, 0, none⟩), .pointer (some ⟨a11, 0, none⟩), .pointer (some ⟨a12, 0, none⟩), u13, u14, u15, .agg x.cs, .int .i64 own, .int .i64 fn, .agg (x.child own fn).cs, .agg x.cs, .int .i64 own, .int .i64 fn, .int .i64 serial, .agg (x.loop own fn serial).cs, .agg x.cs, .int .i64 own, .agg (x.iter own).cs, u28, u29, u30, u31, u32, u33, u34, u35, u36, u37, u38, u39, u40, u41, u42, u43, u44, u45, u46, u47, u48, u49, u50, u51, u52, u53, u54, u55, u56, u57, u58, u59, u60, u61, u62, u63, u64, u65, u66], []⟩ w') :
    wpAnyH Try.prog .any ops4 Q (fun w' => w'.heap[B]? = some (.cells x.cs 67 (0, 0))) 4 #[true, true, true, true, true, true, true, true, true, true, true, true, true, false, true, false, false, false] ⟨#[u0, .int .i64 own, .int .i64 fn, .int .i64 serial, .pointer (some ⟨B, 0, none⟩), u5, u6, u7, u8, u9, .pointer (some ⟨a10, 0, none⟩), u11, .pointer (some ⟨a12, 0, none⟩), u13, u14, u15, .agg x.cs, .int .i64 own, .int .i64 fn, .agg (x.child own fn).cs, .agg x.cs, .int .i64 own, .int .i64 fn, .int .i64 serial, .agg (x.loop own fn serial).cs, .agg x.cs, .int .i64 own, .agg (x.iter own).cs, u28, u29, u30, u31, u32, u33, u34, u35, u36, u37, u38, u39, u40, u41, u42, u43, u44, u45, u46, u47, u48, u49, u50, u51, u52, u53, u54, u55, u56, u57, u58, u59, u60, u61, u62, u63, u64, u65, u66], []⟩ w := by
  refine wpAnyH_ready (rs := [13]) (by kernel_rfl) (by simp) ?_
  refine AllReadyH.cons (o := { dst := some 11, op := Go.Op.alloc 67, type := 0, pos := "law.go:33", after := #[], guard := none }) rfl (fun K hK => ?_) AllReadyH.nil
  go_simp
  obtain ⟨w5, hw5⟩ : ∃ w5, w.alloc (.cells #[.int .i64 0, .int .i64 0, .int .i64 0, .int .i64 0, .int .i64 0, .int .i64 0, .int .i64 0, .int .i64 0, .int .i64 0, .int .i64 0, .int .i64 0, .int .i64 0, .bool false, .bool false, .int .i64 0, .int .i64 0, .int .i64 0, .int .i64 0, .int .i64 0] 67) = w5 := ⟨_, rfl⟩
  have hn := heap_alloc_new w (.cells #[.int .i64 0, .int .i64 0, .int .i64 0, .int .i64 0, .int .i64 0, .int .i64 0, .int .i64 0, .int .i64 0, .int .i64 0, .int .i64 0, .int .i64 0, .int .i64 0, .bool false, .bool false, .int .i64 0, .int .i64 0, .int .i64 0, .int .i64 0, .int .i64 0] 67)
  have hb5 : Below w.heap.size w w5 := by rw [← hw5]; go_grown
  rw [hw5] at hn
  rw [hw5]
  have hb6 := hb.trans (hb5.mono hb.size)
  have hg := hb.size
  have k10 := (hb5.block a10 (lt_of_heap h10)).trans h10
  have l10 := lt_of_heap h10
  have k12 := (hb5.block a12 (lt_of_heap h12)).trans h12
  have l12 := lt_of_heap h12
  refine hK.out _ _ ((hb6.block B (lt_of_heap hB)).trans hB) (fun _ => ?_)
  clear hK K
  try simp only [Act.put, List.setIfInBounds_toArray, List.set_cons_zero, List.set_cons_succ]
  exact st_3_012 (u10 := undef) (u11 := undef) (u12 := undef) (u19 := undef) (u24 := undef) (u27 := undef) hB hb6 g10 k10 hg hn g12 k12 (show a10 ≠ w.heap.size by omega) n10_12 (show w.heap.size ≠ a12 by omega) hN
set_option maxRecDepth 20000 in
set_option maxHeartbeats 4000000 in
theorem st_3_12 {x : Fm} {own fn serial : Int} {B : Nat} {wR w : World} {u0 u5 u6 u7 u8 u9 u10 u11 u12 u13 u14 u15 u19 u24 u27 u28 u29 u30 u31 u32 u33 u34 u35 u36 u37 u38 u39 u40 u41 u42 u43 u44 u45 u46 u47 u48 u49 u50 u51 u52 u53 u54 u55 u56 u57 u58 u59 u60 u61 u62 u63 u64 u65 u66 : Value} {Q : Exit → Act → World → Prop} {a11 a12 : Nat} (hB : wR.heap[B]? = some (.cells x.cs 67 (0, 0))) (hb : Below wR.heap.size wR w) (g11 : wR.heap.size ≤ a11) (h11 : w.heap[a11]? = some (.cells #[.int .i64 0, .int .i64 0, .int .i64 0, .int .i64 0, .int .i64 0, .int .i64 0, .int .i64 0, .int .i64 0, .int .i64 0, .int .i64 0, .int .i64 0, .int .i64 0, .bool false, .bool false, .int .i64 0, .int .i64 0, .int .i64 0, .int .i64 0, .int .i64 0] 67 (0, 0))) (g12 : wR.heap.size ≤ a12) (h12 : w.heap[a12]? = some (.cells #[.int .i64 0, .int .i64 0, .int .i64 0, .int .i64 0, .int .i64 0, .int .i64 0, .int .i64 0, .int .i64 0, .int .i64 0, .int .i64 0, .int .i64 0, .int .i64 0, .bool false, .bool false, .int .i64 0, .int .i64 0, .int .i64 0, .int .i64 0, .int .i64 0] 67 (0, 0))) (n11_12 : a11 ≠ a12)
    (hN : ∀ (a10 a11 a12 : Nat) (w' : World), Below wR.heap.size wR w' → w'.heap[a10]? = some (.cells (x.child own fn).cs 67 (0, 0)) → w'.heap[a11]? = some (.cells (x.loop own fn serial).cs 67 (0, 0)) → w'.heap[a12]? = some (.cells (x.iter own).cs 67 (0, 0)) → Q .normal ⟨#[u0, .int .i64 own, .int .i64 fn, .int .i64 serial, .pointer (some ⟨B, 0, none⟩), u5, u6, u7, u8, u9, .pointer (some ⟨a10, 0, none⟩), .pointer (some ⟨a11, 0, none⟩), .pointer (some ⟨a12, 0, none⟩), u13, u14, u15, .agg x.cs, .int .i64 own, .int .i64 fn, .agg (x.child own fn).cs, .agg x.cs, .int .i64 own, .int .i64 fn, .int .i64 serial, .agg (x.loop own fn serial).cs, .agg x.cs, .int .i64 own, .agg (x.iter own).cs, u28, u29, u30, u31, u32, u33, u34, u35, u36, u37, u38, u39, u40, u41, u42, u43, u44, u45, u46, u47, u48, u49, u50, u51, u52, u53, u54, u55, u56, u57, u58, u59, u60, u61, u62, u63, u64, u65, u66], []⟩ w') :
    wpAnyH Try.prog .any ops4 Q (fun w' => w'.heap[B]? = some (.cells x.cs 67 (0, 0))) 4 #[true, true, true, true, true, true, true, true, true, true, true, true, false, true, true, false, false, false] ⟨#[u0, .int .i64 own, .int .i64 fn, .int .i64 serial, .pointer (some ⟨B, 0, none⟩), u5, u6, u7, u8, u9, u10, .pointer (some ⟨a11, 0, none⟩), .pointer (some ⟨a12, 0, none⟩), u13, u14, u15, .agg x.cs, .int .i64 own, .int .i64 fn, .agg (x.child own fn).cs, .agg x.cs, .int .i64 own, .int .i64 fn, .int .i64 serial, .agg (x.loop own fn serial).cs, .agg x.cs, .int .i64 own, .agg (x.iter own).cs, u28, u29, u30, u31, u32, u33, u34, u35, u36, u37, u38, u39, u40, u41, u42, u43, u44, u45, u46, u47, u48, u49, u50, u51, u52, u53, u54, u55, u56, u57, u58, u59, u60, u61, u62, u63, u64, u65, u66], []⟩ w := by
  refine wpAnyH_ready (rs := [12]) (by kernel_rfl) (by simp) ?_
  refine AllReadyH.cons (o := { dst := some 10, op := Go.Op.alloc 67, type := 0, pos := "law.go:33", after := #[], guard := none }) rfl (fun K hK => ?_) AllReadyH.nil
  go_simp
  obtain ⟨w5, hw5⟩ : ∃ w5, w.alloc (.cells #[.int .i64 0, .int .i64 0, .int .i64 0, .int .i64 0, .int .i64 0, .int .i64 0, .int .i64 0, .int .i64 0, .int .i64 0, .int .i64 0, .int .i64 0, .int .i64 0, .bool false, .bool false, .int .i64 0, .int .i64 0, .int .i64 0, .int .i64 0, .int .i64 0] 67) = w5 := ⟨_, rfl⟩
  have hn := heap_alloc_new w (.cells #[.int .i64 0, .int .i64 0, .int .i64 0, .int .i64 0, .int .i64 0, .int .i64 0, .int .i64 0, .int .i64 0, .int .i64 0, .int .i64 0, .int .i64 0, .int .i64 0, .bool false, .bool false, .int .i64 0, .int .i64 0, .int .i64 0, .int .i64 0, .int .i64 0] 67)
  have hb5 : Below w.heap.size w w5 := by rw [← hw5]; go_grown
  rw [hw5] at hn
  rw [hw5]
  have hb6 := hb.trans (hb5.mono hb.size)
  have hg := hb.size
  have k11 := (hb5.block a11 (lt_of_heap h11)).trans h11
  have l11 := lt_of_heap h11
  have k12 := (hb5.block a12 (lt_of_heap h12)).trans h12
  have l12 := lt_of_heap h12
  refine hK.out _ _ ((hb6.block B (lt_of_heap hB)).trans hB) (fun _ => ?_)
  clear hK K
  try simp only [Act.put, List.setIfInBounds_toArray, List.set_cons_zero, List.set_cons_succ]
  exact st_3_012 (u10 := undef) (u11 := undef) (u12 := undef) (u19 := undef) (u24 := undef) (u27 := undef) hB hb6 hg hn g11 k11 g12 k12 (show w.heap.size ≠ a11 by omega) (show w.heap.size ≠ a12 by omega) n11_12 hN
set_option maxRecDepth 20000 in
set_option maxHeartbeats 4000000 in
theorem st_1_012 {x : Fm} {own fn serial : Int} {B : Nat} {wR w : World} {u0 u5 u6 u7 u8 u9 u10 u11 u12 u13 u14 u15 u19 u24 u27 u28 u29 u30 u31 u32 u33 u34 u35 u36 u37 u38 u39 u40 u41 u42 u43 u44 u45 u46 u47 u48 u49 u50 u51 u52 u53 u54 u55 u56 u57 u58 u59 u60 u61 u62 u63 u64 u65 u66 : Value} {Q : Exit → Act → World → Prop} {a10 a11 a12 : Nat} (hB : wR.heap[B]? = some (.cells x.cs 67 (0, 0))) (hb : Below wR.heap.size wR w) (g10 : wR.heap.size ≤ a10) (h10 : w.heap[a10]? = some (.cells #[.int .i64 0, .int .i64 0, .int .i64 0, .int .i64 0, .int .i64 0, .int .i64 0, .int .i64 0, .int .i64 0, .int .i64 0, .int .i64 0, .int .i64 0, .int .i64 0, .bool false, .bool false, .int .i64 0, .int .i64 0, .int .i64 0, .int .i64 0, .int .i64 0] 67 (0, 0))) (g11 : wR.heap.size ≤ a11) (h11 : w.heap[a11]? = some (.cells #[.int .i64 0, .int .i64 0, .int .i64 0, .int .i64 0, .int .i64 0, .int .i64 0, .int .i64 0, .int .i64 0, .int .i64 0, .int .i64 0, .int .i64 0, .int .i64 0, .bool false, .bool false, .int .i64 0, .int .i64 0, .int .i64 0, .int .i64 0, .int .i64 0] 67 (0, 0))) (g12 : wR.heap.size ≤ a12) (h12 : w.heap[a12]? = some (.cells #[.int .i64 0, .int .i64 0, .int .i64 0, .int .i64 0, .int .i64 0, .int .i64 0, .int .i64 0, .int .i64 0, .int .i64 0, .int .i64 0, .int .i64 0, .int .i64 0, .bool false, .bool false, .int .i64 0, .int .i64 0, .int .i64 0, .int .i64 0, .int .i64 0] 67 (0, 0))) (n10_11 : a10 ≠ a11) (n10_12 : a10 ≠ a12) (n11_12 : a11 ≠ a12)
    (hN : ∀ (a10 a11 a12 : Nat) (w' : World), Below wR.heap.size wR w' → w'.heap[a10]? = some (.cells (x.child own fn).cs 67 (0, 0)) → w'.heap[a11]? = some (.cells (x.loop own fn serial).cs 67 (0, 0)) → w'.heap[a12]? = some (.cells (x.iter own).cs 67 (0, 0)) → Q .normal ⟨#[u0, .int .i64 own, .int .i64 fn, .int .i64 serial, .pointer (some ⟨B, 0, none⟩), u5, u6, u7, u8, u9, .pointer (some ⟨a10, 0, none⟩), .pointer (some ⟨a11, 0, none⟩), .pointer (some ⟨a12, 0, none⟩), u13, u14, u15, .agg x.cs, .int .i64 own, .int .i64 fn, .agg (x.child own fn).cs, .agg x.cs, .int .i64 own, .int .i64 fn, .int .i64 serial, .agg (x.loop own fn serial).cs, .agg x.cs, .int .i64 own, .agg (x.iter own).cs, u28, u29, u30, u31, u32, u33, u34, u35, u36, u37, u38, u39, u40, u41, u42, u43, u44, u45, u46, u47, u48, u49, u50, u51, u52, u53, u54, u55, u56, u57, u58, u59, u60, u61, u62, u63, u64, u65, u66], []⟩ w') :
    wpAnyH Try.prog .any ops4 Q (fun w' => w'.heap[B]? = some (.cells x.cs 67 (0, 0))) 5 #[true, true, true, true, true, true, true, true, false, true, true, false, true, true, true, false, false, false] ⟨#[u0, .int .i64 own, .int .i64 fn, .int .i64 serial, .pointer (some ⟨B, 0, none⟩), u5, u6, u7, u8, u9, .pointer (some ⟨a10, 0, none⟩), .pointer (some ⟨a11, 0, none⟩), .pointer (some ⟨a12, 0, none⟩), u13, u14, u15, .agg x.cs, .int .i64 own, .int .i64 fn, .agg (x.child own fn).cs, .agg x.cs, .int .i64 own, .int .i64 fn, .int .i64 serial, u24, .agg x.cs, .int .i64 own, u27, u28, u29, u30, u31, u32, u33, u34, u35, u36, u37, u38, u39, u40, u41, u42, u43, u44, u45, u46, u47, u48, u49, u50, u51, u52, u53, u54, u55, u56, u57, u58, u59, u60, u61, u62, u63, u64, u65, u66], []⟩ w := by
  refine wpAnyH_ready (rs := [8]) (by kernel_rfl) (by simp) ?_
  refine AllReadyH.cons (o := { dst := some 24, op := Go.Op.call { callee := Go.Callee.value (Go.Operand.func 44), args := #[Go.Operand.tmp 20, Go.Operand.tmp 21, Go.Operand.tmp 22, Go.Operand.tmp 23], argTypes := #[67, 3, 3, 3] }, type := 67, pos := "law.go:33", after := #[{ on := 4, ground := Go.Ground.data }, { on := 5, ground := Go.Ground.data }, { on := 6, ground := Go.Ground.data }, { on := 7, ground := Go.Ground.data }, { on := 3, ground := Go.Ground.chain }], guard := none }) rfl (fun K hK => ?_) AllReadyH.nil
  go_simp
  refine (loop_of x own fn serial _).mono ?_
  rintro e w5 ⟨rfl, hb5⟩
  try simp only [go_sem]
  have hb6 := hb.trans (hb5.mono hb.size)
  have k10 := (hb5.block a10 (lt_of_heap h10)).trans h10
  have k11 := (hb5.block a11 (lt_of_heap h11)).trans h11
  have k12 := (hb5.block a12 (lt_of_heap h12)).trans h12
  refine hK.out _ _ ((hb6.block B (lt_of_heap hB)).trans hB) (fun _ => ?_)
  clear hK K
  try simp only [Act.put, List.setIfInBounds_toArray, List.set_cons_zero, List.set_cons_succ]
  exact st_2_012 (u10 := undef) (u11 := undef) (u12 := undef) (u19 := undef) (u24 := undef) hB hb6 g10 k10 g11 k11 g12 k12 n10_11 n10_12 n11_12 hN
set_option maxRecDepth 20000 in
set_option maxHeartbeats 4000000 in
theorem st_2_01 {x : Fm} {own fn serial : Int} {B : Nat} {wR w : World} {u0 u5 u6 u7 u8 u9 u10 u11 u12 u13 u14 u15 u19 u24 u27 u28 u29 u30 u31 u32 u33 u34 u35 u36 u37 u38 u39 u40 u41 u42 u43 u44 u45 u46 u47 u48 u49 u50 u51 u52 u53 u54 u55 u56 u57 u58 u59 u60 u61 u62 u63 u64 u65 u66 : Value} {Q : Exit → Act → World → Prop} {a10 a11 : Nat} (hB : wR.heap[B]? = some (.cells x.cs 67 (0, 0))) (hb : Below wR.heap.size wR w) (g10 : wR.heap.size ≤ a10) (h10 : w.heap[a10]? = some (.cells #[.int .i64 0, .int .i64 0, .int .i64 0, .int .i64 0, .int .i64 0, .int .i64 0, .int .i64 0, .int .i64 0, .int .i64 0, .int .i64 0, .int .i64 0, .int .i64 0, .bool false, .bool false, .int .i64 0, .int .i64 0, .int .i64 0, .int .i64 0, .int .i64 0] 67 (0, 0))) (g11 : wR.heap.size ≤ a11) (h11 : w.heap[a11]? = some (.cells #[.int .i64 0, .int .i64 0, .int .i64 0, .int .i64 0, .int .i64 0, .int .i64 0, .int .i64 0, .int .i64 0, .int .i64 0, .int .i64 0, .int .i64 0, .int .i64 0, .bool false, .bool false, .int .i64 0, .int .i64 0, .int .i64 0, .int .i64 0, .int .i64 0] 67 (0, 0))) (n10_11 : a10 ≠ a11)
    (hN : ∀ (a10 a11 a12 : Nat) (w' : World), Below wR.heap.size wR w' → w'.heap[a10]? = some (.cells (x.child own fn).cs 67 (0, 0)) → w'.heap[a11]? = some (.cells (x.loop own fn serial).cs 67 (0, 0)) → w'.heap[a12]? = some (.cells (x.iter own).cs 67 (0, 0)) → Q .normal ⟨#[u0, .int .i64 own, .int .i64 fn, .int .i64 serial, .pointer (some ⟨B, 0, none⟩), u5, u6, u7, u8, u9, .pointer (some ⟨a10, 0, none⟩), .pointer (some ⟨a11, 0, none⟩), .pointer (some ⟨a12, 0, none⟩), u13, u14, u15, .agg x.cs, .int .i64 own, .int .i64 fn, .agg (x.child own fn).cs, .agg x.cs, .int .i64 own, .int .i64 fn, .int .i64 serial, .agg (x.loop own fn serial).cs, .agg x.cs, .int .i64 own, .agg (x.iter own).cs, u28, u29, u30, u31, u32, u33, u34, u35, u36, u37, u38, u39, u40, u41, u42, u43, u44, u45, u46, u47, u48, u49, u50, u51, u52, u53, u54, u55, u56, u57, u58, u59, u60, u61, u62, u63, u64, u65, u66], []⟩ w') :
    wpAnyH Try.prog .any ops4 Q (fun w' => w'.heap[B]? = some (.cells x.cs 67 (0, 0))) 5 #[true, true, true, true, true, true, true, true, true, true, true, false, true, true, false, false, false, false] ⟨#[u0, .int .i64 own, .int .i64 fn, .int .i64 serial, .pointer (some ⟨B, 0, none⟩), u5, u6, u7, u8, u9, .pointer (some ⟨a10, 0, none⟩), .pointer (some ⟨a11, 0, none⟩), u12, u13, u14, u15, .agg x.cs, .int .i64 own, .int .i64 fn, .agg (x.child own fn).cs, .agg x.cs, .int .i64 own, .int .i64 fn, .int .i64 serial, .agg (x.loop own fn serial).cs, .agg x.cs, .int .i64 own, u27, u28, u29, u30, u31, u32, u33, u34, u35, u36, u37, u38, u39, u40, u41, u42, u43, u44, u45, u46, u47, u48, u49, u50, u51, u52, u53, u54, u55, u56, u57, u58, u59, u60, u61, u62, u63, u64, u65, u66], []⟩ w := by
  refine wpAnyH_ready (rs := [11, 14]) (by kernel_rfl) (by simp) ?_
  refine AllReadyH.cons (o := { dst := some 27, op := Go.Op.call { callee := Go.Callee.value (Go.Operand.func 45), args := #[Go.Operand.tmp 25, Go.Operand.tmp 26], argTypes := #[67, 3] }, type := 67, pos := "law.go:33", after := #[{ on := 9, ground := Go.Ground.data }, { on := 10, ground := Go.Ground.data }, { on := 8, ground := Go.Ground.chain }], guard := none }) rfl (fun K hK => ?_) ?_
  · go_simp
    refine (iter_of x own _).mono ?_
    rintro e w5 ⟨rfl, hb5⟩
    try simp only [go_sem]
    have hb6 := hb.trans (hb5.mono hb.size)
    have k10 := (hb5.block a10 (lt_of_heap h10)).trans h10
    have k11 := (hb5.block a11 (lt_of_heap h11)).trans h11
    refine hK.out _ _ ((hb6.block B (lt_of_heap hB)).trans hB) (fun _ => ?_)
    clear hK K
    try simp only [Act.put, List.setIfInBounds_toArray, List.set_cons_zero, List.set_cons_succ]
    exact st_3_01 (u10 := undef) (u11 := undef) (u19 := undef) (u24 := undef) (u27 := undef) hB hb6 g10 k10 g11 k11 n10_11 hN
  refine AllReadyH.cons (o := { dst := some 12, op := Go.Op.alloc 67, type := 0, pos := "law.go:33", after := #[], guard := none }) rfl (fun K hK => ?_) AllReadyH.nil
  go_simp
  obtain ⟨w5, hw5⟩ : ∃ w5, w.alloc (.cells #[.int .i64 0, .int .i64 0, .int .i64 0, .int .i64 0, .int .i64 0, .int .i64 0, .int .i64 0, .int .i64 0, .int .i64 0, .int .i64 0, .int .i64 0, .int .i64 0, .bool false, .bool false, .int .i64 0, .int .i64 0, .int .i64 0, .int .i64 0, .int .i64 0] 67) = w5 := ⟨_, rfl⟩
  have hn := heap_alloc_new w (.cells #[.int .i64 0, .int .i64 0, .int .i64 0, .int .i64 0, .int .i64 0, .int .i64 0, .int .i64 0, .int .i64 0, .int .i64 0, .int .i64 0, .int .i64 0, .int .i64 0, .bool false, .bool false, .int .i64 0, .int .i64 0, .int .i64 0, .int .i64 0, .int .i64 0] 67)
  have hb5 : Below w.heap.size w w5 := by rw [← hw5]; go_grown
  rw [hw5] at hn
  rw [hw5]
  have hb6 := hb.trans (hb5.mono hb.size)
  have hg := hb.size
  have k10 := (hb5.block a10 (lt_of_heap h10)).trans h10
  have l10 := lt_of_heap h10
  have k11 := (hb5.block a11 (lt_of_heap h11)).trans h11
  have l11 := lt_of_heap h11
  refine hK.out _ _ ((hb6.block B (lt_of_heap hB)).trans hB) (fun _ => ?_)
  clear hK K
  try simp only [Act.put, List.setIfInBounds_toArray, List.set_cons_zero, List.set_cons_succ]
  exact st_2_012 (u10 := undef) (u11 := undef) (u12 := undef) (u19 := undef) (u24 := undef) hB hb6 g10 k10 g11 k11 hg hn n10_11 (show a10 ≠ w.heap.size by omega) (show a11 ≠ w.heap.size by omega) hN
set_option maxRecDepth 20000 in
set_option maxHeartbeats 4000000 in
theorem st_2_02 {x : Fm} {own fn serial : Int} {B : Nat} {wR w : World} {u0 u5 u6 u7 u8 u9 u10 u11 u12 u13 u14 u15 u19 u24 u27 u28 u29 u30 u31 u32 u33 u34 u35 u36 u37 u38 u39 u40 u41 u42 u43 u44 u45 u46 u47 u48 u49 u50 u51 u52 u53 u54 u55 u56 u57 u58 u59 u60 u61 u62 u63 u64 u65 u66 : Value} {Q : Exit → Act → World → Prop} {a10 a12 : Nat} (hB : wR.heap[B]? = some (.cells x.cs 67 (0, 0))) (hb : Below wR.heap.size wR w) (g10 : wR.heap.size ≤ a10) (h10 : w.heap[a10]? = some (.cells #[.int .i64 0, .int .i64 0, .int .i64 0, .int .i64 0, .int .i64 0, .int .i64 0, .int .i64 0, .int .i64 0, .int .i64 0, .int .i64 0, .int .i64 0, .int .i64 0, .bool false, .bool false, .int .i64 0, .int .i64 0, .int .i64 0, .int .i64 0, .int .i64 0] 67 (0, 0))) (g12 : wR.heap.size ≤ a12) (h12 : w.heap[a12]? = some (.cells #[.int .i64 0, .int .i64 0, .int .i64 0, .int .i64 0, .int .i64 0, .int .i64 0, .int .i64 0, .int .i64 0, .int .i64 0, .int .i64 0, .int .i64 0, .int .i64 0, .bool false, .bool false, .int .i64 0, .int .i64 0, .int .i64 0, .int .i64 0, .int .i64 0] 67 (0, 0))) (n10_12 : a10 ≠ a12)
    (hN : ∀ (a10 a11 a12 : Nat) (w' : World), Below wR.heap.size wR w' → w'.heap[a10]? = some (.cells (x.child own fn).cs 67 (0, 0)) → w'.heap[a11]? = some (.cells (x.loop own fn serial).cs 67 (0, 0)) → w'.heap[a12]? = some (.cells (x.iter own).cs 67 (0, 0)) → Q .normal ⟨#[u0, .int .i64 own, .int .i64 fn, .int .i64 serial, .pointer (some ⟨B, 0, none⟩), u5, u6, u7, u8, u9, .pointer (some ⟨a10, 0, none⟩), .pointer (some ⟨a11, 0, none⟩), .pointer (some ⟨a12, 0, none⟩), u13, u14, u15, .agg x.cs, .int .i64 own, .int .i64 fn, .agg (x.child own fn).cs, .agg x.cs, .int .i64 own, .int .i64 fn, .int .i64 serial, .agg (x.loop own fn serial).cs, .agg x.cs, .int .i64 own, .agg (x.iter own).cs, u28, u29, u30, u31, u32, u33, u34, u35, u36, u37, u38, u39, u40, u41, u42, u43, u44, u45, u46, u47, u48, u49, u50, u51, u52, u53, u54, u55, u56, u57, u58, u59, u60, u61, u62, u63, u64, u65, u66], []⟩ w') :
    wpAnyH Try.prog .any ops4 Q (fun w' => w'.heap[B]? = some (.cells x.cs 67 (0, 0))) 5 #[true, true, true, true, true, true, true, true, true, true, true, false, true, false, true, false, false, false] ⟨#[u0, .int .i64 own, .int .i64 fn, .int .i64 serial, .pointer (some ⟨B, 0, none⟩), u5, u6, u7, u8, u9, .pointer (some ⟨a10, 0, none⟩), u11, .pointer (some ⟨a12, 0, none⟩), u13, u14, u15, .agg x.cs, .int .i64 own, .int .i64 fn, .agg (x.child own fn).cs, .agg x.cs, .int .i64 own, .int .i64 fn, .int .i64 serial, .agg (x.loop own fn serial).cs, .agg x.cs, .int .i64 own, u27, u28, u29, u30, u31, u32, u33, u34, u35, u36, u37, u38, u39, u40, u41, u42, u43, u44, u45, u46, u47, u48, u49, u50, u51, u52, u53, u54, u55, u56, u57, u58, u59, u60, u61, u62, u63, u64, u65, u66], []⟩ w := by
  refine wpAnyH_ready (rs := [11, 13]) (by kernel_rfl) (by simp) ?_
  refine AllReadyH.cons (o := { dst := some 27, op := Go.Op.call { callee := Go.Callee.value (Go.Operand.func 45), args := #[Go.Operand.tmp 25, Go.Operand.tmp 26], argTypes := #[67, 3] }, type := 67, pos := "law.go:33", after := #[{ on := 9, ground := Go.Ground.data }, { on := 10, ground := Go.Ground.data }, { on := 8, ground := Go.Ground.chain }], guard := none }) rfl (fun K hK => ?_) ?_
  · go_simp
    refine (iter_of x own _).mono ?_
    rintro e w5 ⟨rfl, hb5⟩
    try simp only [go_sem]
    have hb6 := hb.trans (hb5.mono hb.size)
    have k10 := (hb5.block a10 (lt_of_heap h10)).trans h10
    have k12 := (hb5.block a12 (lt_of_heap h12)).trans h12
    refine hK.out _ _ ((hb6.block B (lt_of_heap hB)).trans hB) (fun _ => ?_)
    clear hK K
    try simp only [Act.put, List.setIfInBounds_toArray, List.set_cons_zero, List.set_cons_succ]
    exact st_3_02 (u10 := undef) (u12 := undef) (u19 := undef) (u24 := undef) (u27 := undef) hB hb6 g10 k10 g12 k12 n10_12 hN
  refine AllReadyH.cons (o := { dst := some 11, op := Go.Op.alloc 67, type := 0, pos := "law.go:33", after := #[], guard := none }) rfl (fun K hK => ?_) AllReadyH.nil
  go_simp
  obtain ⟨w5, hw5⟩ : ∃ w5, w.alloc (.cells #[.int .i64 0, .int .i64 0, .int .i64 0, .int .i64 0, .int .i64 0, .int .i64 0, .int .i64 0, .int .i64 0, .int .i64 0, .int .i64 0, .int .i64 0, .int .i64 0, .bool false, .bool false, .int .i64 0, .int .i64 0, .int .i64 0, .int .i64 0, .int .i64 0] 67) = w5 := ⟨_, rfl⟩
  have hn := heap_alloc_new w (.cells #[.int .i64 0, .int .i64 0, .int .i64 0, .int .i64 0, .int .i64 0, .int .i64 0, .int .i64 0, .int .i64 0, .int .i64 0, .int .i64 0, .int .i64 0, .int .i64 0, .bool false, .bool false, .int .i64 0, .int .i64 0, .int .i64 0, .int .i64 0, .int .i64 0] 67)
  have hb5 : Below w.heap.size w w5 := by rw [← hw5]; go_grown
  rw [hw5] at hn
  rw [hw5]
  have hb6 := hb.trans (hb5.mono hb.size)
  have hg := hb.size
  have k10 := (hb5.block a10 (lt_of_heap h10)).trans h10
  have l10 := lt_of_heap h10
  have k12 := (hb5.block a12 (lt_of_heap h12)).trans h12
  have l12 := lt_of_heap h12
  refine hK.out _ _ ((hb6.block B (lt_of_heap hB)).trans hB) (fun _ => ?_)
  clear hK K
  try simp only [Act.put, List.setIfInBounds_toArray, List.set_cons_zero, List.set_cons_succ]
  exact st_2_012 (u10 := undef) (u11 := undef) (u12 := undef) (u19 := undef) (u24 := undef) hB hb6 g10 k10 hg hn g12 k12 (show a10 ≠ w.heap.size by omega) n10_12 (show w.heap.size ≠ a12 by omega) hN
set_option maxRecDepth 20000 in
set_option maxHeartbeats 4000000 in
theorem st_2_12 {x : Fm} {own fn serial : Int} {B : Nat} {wR w : World} {u0 u5 u6 u7 u8 u9 u10 u11 u12 u13 u14 u15 u19 u24 u27 u28 u29 u30 u31 u32 u33 u34 u35 u36 u37 u38 u39 u40 u41 u42 u43 u44 u45 u46 u47 u48 u49 u50 u51 u52 u53 u54 u55 u56 u57 u58 u59 u60 u61 u62 u63 u64 u65 u66 : Value} {Q : Exit → Act → World → Prop} {a11 a12 : Nat} (hB : wR.heap[B]? = some (.cells x.cs 67 (0, 0))) (hb : Below wR.heap.size wR w) (g11 : wR.heap.size ≤ a11) (h11 : w.heap[a11]? = some (.cells #[.int .i64 0, .int .i64 0, .int .i64 0, .int .i64 0, .int .i64 0, .int .i64 0, .int .i64 0, .int .i64 0, .int .i64 0, .int .i64 0, .int .i64 0, .int .i64 0, .bool false, .bool false, .int .i64 0, .int .i64 0, .int .i64 0, .int .i64 0, .int .i64 0] 67 (0, 0))) (g12 : wR.heap.size ≤ a12) (h12 : w.heap[a12]? = some (.cells #[.int .i64 0, .int .i64 0, .int .i64 0, .int .i64 0, .int .i64 0, .int .i64 0, .int .i64 0, .int .i64 0, .int .i64 0, .int .i64 0, .int .i64 0, .int .i64 0, .bool false, .bool false, .int .i64 0, .int .i64 0, .int .i64 0, .int .i64 0, .int .i64 0] 67 (0, 0))) (n11_12 : a11 ≠ a12)
    (hN : ∀ (a10 a11 a12 : Nat) (w' : World), Below wR.heap.size wR w' → w'.heap[a10]? = some (.cells (x.child own fn).cs 67 (0, 0)) → w'.heap[a11]? = some (.cells (x.loop own fn serial).cs 67 (0, 0)) → w'.heap[a12]? = some (.cells (x.iter own).cs 67 (0, 0)) → Q .normal ⟨#[u0, .int .i64 own, .int .i64 fn, .int .i64 serial, .pointer (some ⟨B, 0, none⟩), u5, u6, u7, u8, u9, .pointer (some ⟨a10, 0, none⟩), .pointer (some ⟨a11, 0, none⟩), .pointer (some ⟨a12, 0, none⟩), u13, u14, u15, .agg x.cs, .int .i64 own, .int .i64 fn, .agg (x.child own fn).cs, .agg x.cs, .int .i64 own, .int .i64 fn, .int .i64 serial, .agg (x.loop own fn serial).cs, .agg x.cs, .int .i64 own, .agg (x.iter own).cs, u28, u29, u30, u31, u32, u33, u34, u35, u36, u37, u38, u39, u40, u41, u42, u43, u44, u45, u46, u47, u48, u49, u50, u51, u52, u53, u54, u55, u56, u57, u58, u59, u60, u61, u62, u63, u64, u65, u66], []⟩ w') :
    wpAnyH Try.prog .any ops4 Q (fun w' => w'.heap[B]? = some (.cells x.cs 67 (0, 0))) 5 #[true, true, true, true, true, true, true, true, true, true, true, false, false, true, true, false, false, false] ⟨#[u0, .int .i64 own, .int .i64 fn, .int .i64 serial, .pointer (some ⟨B, 0, none⟩), u5, u6, u7, u8, u9, u10, .pointer (some ⟨a11, 0, none⟩), .pointer (some ⟨a12, 0, none⟩), u13, u14, u15, .agg x.cs, .int .i64 own, .int .i64 fn, .agg (x.child own fn).cs, .agg x.cs, .int .i64 own, .int .i64 fn, .int .i64 serial, .agg (x.loop own fn serial).cs, .agg x.cs, .int .i64 own, u27, u28, u29, u30, u31, u32, u33, u34, u35, u36, u37, u38, u39, u40, u41, u42, u43, u44, u45, u46, u47, u48, u49, u50, u51, u52, u53, u54, u55, u56, u57, u58, u59, u60, u61, u62, u63, u64, u65, u66], []⟩ w := by
  refine wpAnyH_ready (rs := [11, 12]) (by kernel_rfl) (by simp) ?_
  refine AllReadyH.cons (o := { dst := some 27, op := Go.Op.call { callee := Go.Callee.value (Go.Operand.func 45), args := #[Go.Operand.tmp 25, Go.Operand.tmp 26], argTypes := #[67, 3] }, type := 67, pos := "law.go:33", after := #[{ on := 9, ground := Go.Ground.data }, { on := 10, ground := Go.Ground.data }, { on := 8, ground := Go.Ground.chain }], guard := none }) rfl (fun K hK => ?_) ?_
  · go_simp
    refine (iter_of x own _).mono ?_
    rintro e w5 ⟨rfl, hb5⟩
    try simp only [go_sem]
    have hb6 := hb.trans (hb5.mono hb.size)
    have k11 := (hb5.block a11 (lt_of_heap h11)).trans h11
    have k12 := (hb5.block a12 (lt_of_heap h12)).trans h12
    refine hK.out _ _ ((hb6.block B (lt_of_heap hB)).trans hB) (fun _ => ?_)
    clear hK K
    try simp only [Act.put, List.setIfInBounds_toArray, List.set_cons_zero, List.set_cons_succ]
    exact st_3_12 (u11 := undef) (u12 := undef) (u19 := undef) (u24 := undef) (u27 := undef) hB hb6 g11 k11 g12 k12 n11_12 hN
  refine AllReadyH.cons (o := { dst := some 10, op := Go.Op.alloc 67, type := 0, pos := "law.go:33", after := #[], guard := none }) rfl (fun K hK => ?_) AllReadyH.nil
  go_simp
  obtain ⟨w5, hw5⟩ : ∃ w5, w.alloc (.cells #[.int .i64 0, .int .i64 0, .int .i64 0, .int .i64 0, .int .i64 0, .int .i64 0, .int .i64 0, .int .i64 0, .int .i64 0, .int .i64 0, .int .i64 0, .int .i64 0, .bool false, .bool false, .int .i64 0, .int .i64 0, .int .i64 0, .int .i64 0, .int .i64 0] 67) = w5 := ⟨_, rfl⟩
  have hn := heap_alloc_new w (.cells #[.int .i64 0, .int .i64 0, .int .i64 0, .int .i64 0, .int .i64 0, .int .i64 0, .int .i64 0, .int .i64 0, .int .i64 0, .int .i64 0, .int .i64 0, .int .i64 0, .bool false, .bool false, .int .i64 0, .int .i64 0, .int .i64 0, .int .i64 0, .int .i64 0] 67)
  have hb5 : Below w.heap.size w w5 := by rw [← hw5]; go_grown
  rw [hw5] at hn
  rw [hw5]
  have hb6 := hb.trans (hb5.mono hb.size)
  have hg := hb.size
  have k11 := (hb5.block a11 (lt_of_heap h11)).trans h11
  have l11 := lt_of_heap h11
  have k12 := (hb5.block a12 (lt_of_heap h12)).trans h12
  have l12 := lt_of_heap h12
  refine hK.out _ _ ((hb6.block B (lt_of_heap hB)).trans hB) (fun _ => ?_)
  clear hK K
  try simp only [Act.put, List.setIfInBounds_toArray, List.set_cons_zero, List.set_cons_succ]
  exact st_2_012 (u10 := undef) (u11 := undef) (u12 := undef) (u19 := undef) (u24 := undef) hB hb6 hg hn g11 k11 g12 k12 (show w.heap.size ≠ a11 by omega) (show w.heap.size ≠ a12 by omega) n11_12 hN
set_option maxRecDepth 20000 in
set_option maxHeartbeats 4000000 in
theorem st_3_0 {x : Fm} {own fn serial : Int} {B : Nat} {wR w : World} {u0 u5 u6 u7 u8 u9 u10 u11 u12 u13 u14 u15 u19 u24 u27 u28 u29 u30 u31 u32 u33 u34 u35 u36 u37 u38 u39 u40 u41 u42 u43 u44 u45 u46 u47 u48 u49 u50 u51 u52 u53 u54 u55 u56 u57 u58 u59 u60 u61 u62 u63 u64 u65 u66 : Value} {Q : Exit → Act → World → Prop} {a10 : Nat} (hB : wR.heap[B]? = some (.cells x.cs 67 (0, 0))) (hb : Below wR.heap.size wR w) (g10 : wR.heap.size ≤ a10) (h10 : w.heap[a10]? = some (.cells #[.int .i64 0, .int .i64 0, .int .i64 0, .int .i64 0, .int .i64 0, .int .i64 0, .int .i64 0, .int .i64 0, .int .i64 0, .int .i64 0, .int .i64 0, .int .i64 0, .bool false, .bool false, .int .i64 0, .int .i64 0, .int .i64 0, .int .i64 0, .int .i64 0] 67 (0, 0)))
    (hN : ∀ (a10 a11 a12 : Nat) (w' : World), Below wR.heap.size wR w' → w'.heap[a10]? = some (.cells (x.child own fn).cs 67 (0, 0)) → w'.heap[a11]? = some (.cells (x.loop own fn serial).cs 67 (0, 0)) → w'.heap[a12]? = some (.cells (x.iter own).cs 67 (0, 0)) → Q .normal ⟨#[u0, .int .i64 own, .int .i64 fn, .int .i64 serial, .pointer (some ⟨B, 0, none⟩), u5, u6, u7, u8, u9, .pointer (some ⟨a10, 0, none⟩), .pointer (some ⟨a11, 0, none⟩), .pointer (some ⟨a12, 0, none⟩), u13, u14, u15, .agg x.cs, .int .i64 own, .int .i64 fn, .agg (x.child own fn).cs, .agg x.cs, .int .i64 own, .int .i64 fn, .int .i64 serial, .agg (x.loop own fn serial).cs, .agg x.cs, .int .i64 own, .agg (x.iter own).cs, u28, u29, u30, u31, u32, u33, u34, u35, u36, u37, u38, u39, u40, u41, u42, u43, u44, u45, u46, u47, u48, u49, u50, u51, u52, u53, u54, u55, u56, u57, u58, u59, u60, u61, u62, u63, u64, u65, u66], []⟩ w') :
    wpAnyH Try.prog .any ops4 Q (fun w' => w'.heap[B]? = some (.cells x.cs 67 (0, 0))) 5 #[true, true, true, true, true, true, true, true, true, true, true, true, true, false, false, false, false, false] ⟨#[u0, .int .i64 own, .int .i64 fn, .int .i64 serial, .pointer (some ⟨B, 0, none⟩), u5, u6, u7, u8, u9, .pointer (some ⟨a10, 0, none⟩), u11, u12, u13, u14, u15, .agg x.cs, .int .i64 own, .int .i64 fn, .agg (x.child own fn).cs, .agg x.cs, .int .i64 own, .int .i64 fn, .int .i64 serial, .agg (x.loop own fn serial).cs, .agg x.cs, .int .i64 own, .agg (x.iter own).cs, u28, u29, u30, u31, u32, u33, u34, u35, u36, u37, u38, u39, u40, u41, u42, u43, u44, u45, u46, u47, u48, u49, u50, u51, u52, u53, u54, u55, u56, u57, u58, u59, u60, u61, u62, u63, u64, u65, u66], []⟩ w := by
  refine wpAnyH_ready (rs := [13, 14]) (by kernel_rfl) (by simp) ?_
  refine AllReadyH.cons (o := { dst := some 11, op := Go.Op.alloc 67, type := 0, pos := "law.go:33", after := #[], guard := none }) rfl (fun K hK => ?_) ?_
  · go_simp
    obtain ⟨w5, hw5⟩ : ∃ w5, w.alloc (.cells #[.int .i64 0, .int .i64 0, .int .i64 0, .int .i64 0, .int .i64 0, .int .i64 0, .int .i64 0, .int .i64 0, .int .i64 0, .int .i64 0, .int .i64 0, .int .i64 0, .bool false, .bool false, .int .i64 0, .int .i64 0, .int .i64 0, .int .i64 0, .int .i64 0] 67) = w5 := ⟨_, rfl⟩
    have hn := heap_alloc_new w (.cells #[.int .i64 0, .int .i64 0, .int .i64 0, .int .i64 0, .int .i64 0, .int .i64 0, .int .i64 0, .int .i64 0, .int .i64 0, .int .i64 0, .int .i64 0, .int .i64 0, .bool false, .bool false, .int .i64 0, .int .i64 0, .int .i64 0, .int .i64 0, .int .i64 0] 67)
    have hb5 : Below w.heap.size w w5 := by rw [← hw5]; go_grown
    rw [hw5] at hn
    rw [hw5]
    have hb6 := hb.trans (hb5.mono hb.size)
    have hg := hb.size
    have k10 := (hb5.block a10 (lt_of_heap h10)).trans h10
    have l10 := lt_of_heap h10
    refine hK.out _ _ ((hb6.block B (lt_of_heap hB)).trans hB) (fun _ => ?_)
    clear hK K
    try simp only [Act.put, List.setIfInBounds_toArray, List.set_cons_zero, List.set_cons_succ]
    exact st_3_01 (u10 := undef) (u11 := undef) (u19 := undef) (u24 := undef) (u27 := undef) hB hb6 g10 k10 hg hn (show a10 ≠ w.heap.size by omega) hN
  refine AllReadyH.cons (o := { dst := some 12, op := Go.Op.alloc 67, type := 0, pos := "law.go:33", after := #[], guard := none }) rfl (fun K hK => ?_) AllReadyH.nil
  go_simp
  obtain ⟨w5, hw5⟩ : ∃ w5, w.alloc (.cells #[.int .i64 0, .int .i64 0, .int .i64 0, .int .i64 0, .int .i64 0, .int .i64 0, .int .i64 0, .int .i64 0, .int .i64 0, .int .i64 0, .int .i64 0, .int .i64 0, .bool false, .bool false, .int .i64 0, .int .i64 0, .int .i64 0, .int .i64 0, .int .i64 0] 67) = w5 := ⟨_, rfl⟩
  have hn := heap_alloc_new w (.cells #[.int .i64 0, .int .i64 0, .int .i64 0, .int .i64 0, .int .i64 0, .int .i64 0, .int .i64 0, .int .i64 0, .int .i64 0, .int .i64 0, .int .i64 0, .int .i64 0, .bool false, .bool false, .int .i64 0, .int .i64 0, .int .i64 0, .int .i64 0, .int .i64 0] 67)
  have hb5 : Below w.heap.size w w5 := by rw [← hw5]; go_grown
  rw [hw5] at hn
  rw [hw5]
  have hb6 := hb.trans (hb5.mono hb.size)
  have hg := hb.size
  have k10 := (hb5.block a10 (lt_of_heap h10)).trans h10
  have l10 := lt_of_heap h10
  refine hK.out _ _ ((hb6.block B (lt_of_heap hB)).trans hB) (fun _ => ?_)
  clear hK K
  try simp only [Act.put, List.setIfInBounds_toArray, List.set_cons_zero, List.set_cons_succ]
  exact st_3_02 (u10 := undef) (u12 := undef) (u19 := undef) (u24 := undef) (u27 := undef) hB hb6 g10 k10 hg hn (show a10 ≠ w.heap.size by omega) hN
set_option maxRecDepth 20000 in
set_option maxHeartbeats 4000000 in
theorem st_3_1 {x : Fm} {own fn serial : Int} {B : Nat} {wR w : World} {u0 u5 u6 u7 u8 u9 u10 u11 u12 u13 u14 u15 u19 u24 u27 u28 u29 u30 u31 u32 u33 u34 u35 u36 u37 u38 u39 u40 u41 u42 u43 u44 u45 u46 u47 u48 u49 u50 u51 u52 u53 u54 u55 u56 u57 u58 u59 u60 u61 u62 u63 u64 u65 u66 : Value} {Q : Exit → Act → World → Prop} {a11 : Nat} (hB : wR.heap[B]? = some (.cells x.cs 67 (0, 0))) (hb : Below wR.heap.size wR w) (g11 : wR.heap.size ≤ a11) (h11 : w.heap[a11]? = some (.cells #[.int .i64 0, .int .i64 0, .int .i64 0, .int .i64 0, .int .i64 0, .int .i64 0, .int .i64 0, .int .i64 0, .int .i64 0, .int .i64 0, .int .i64 0, .int .i64 0, .bool false, .bool false, .int .i64 0, .int .i64 0, .int .i64 0, .int .i64 0, .int .i64 0] 67 (0, 0)))
    (hN : ∀ (a10 a11 a12 : Nat) (w' : World), Below wR.heap.size wR w' → w'.heap[a10]? = some (.cells (x.child own fn).cs 67 (0, 0)) → w'.heap[a11]? = some (.cells (x.loop own fn serial).cs 67 (0, 0)) → w'.heap[a12]? = some (.cells (x.iter own).cs 67 (0, 0)) → Q .normal ⟨#[u0, .int .i64 own, .int .i64 fn, .int .i64 serial, .pointer (some ⟨B, 0, none⟩), u5, u6, u7, u8, u9, .pointer (some ⟨a10, 0, none⟩), .pointer (some ⟨a11, 0, none⟩), .pointer (some ⟨a12, 0, none⟩), u13, u14, u15, .agg x.cs, .int .i64 own, .int .i64 fn, .agg (x.child own fn).cs, .agg x.cs, .int .i64 own, .int .i64 fn, .int .i64 serial, .agg (x.loop own fn serial).cs, .agg x.cs, .int .i64 own, .agg (x.iter own).cs, u28, u29, u30, u31, u32, u33, u34, u35, u36, u37, u38, u39, u40, u41, u42, u43, u44, u45, u46, u47, u48, u49, u50, u51, u52, u53, u54, u55, u56, u57, u58, u59, u60, u61, u62, u63, u64, u65, u66], []⟩ w') :
    wpAnyH Try.prog .any ops4 Q (fun w' => w'.heap[B]? = some (.cells x.cs 67 (0, 0))) 5 #[true, true, true, true, true, true, true, true, true, true, true, true, false, true, false, false, false, false] ⟨#[u0, .int .i64 own, .int .i64 fn, .int .i64 serial, .pointer (some ⟨B, 0, none⟩), u5, u6, u7, u8, u9, u10, .pointer (some ⟨a11, 0, none⟩), u12, u13, u14, u15, .agg x.cs, .int .i64 own, .int .i64 fn, .agg (x.child own fn).cs, .agg x.cs, .int .i64 own, .int .i64 fn, .int .i64 serial, .agg (x.loop own fn serial).cs, .agg x.cs, .int .i64 own, .agg (x.iter own).cs, u28, u29, u30, u31, u32, u33, u34, u35, u36, u37, u38, u39, u40, u41, u42, u43, u44, u45, u46, u47, u48, u49, u50, u51, u52, u53, u54, u55, u56, u57, u58, u59, u60, u61, u62, u63, u64, u65, u66], []⟩ w := by
  refine wpAnyH_ready (rs := [12, 14]) (by kernel_rfl) (by simp) ?_
  refine AllReadyH.cons (o := { dst := some 10, op := Go.Op.alloc 67, type := 0, pos := "law.go:33", after := #[], guard := none }) rfl (fun K hK => ?_) ?_
  · go_simp
    obtain ⟨w5, hw5⟩ : ∃ w5, w.alloc (.cells #[.int .i64 0, .int .i64 0, .int .i64 0, .int .i64 0, .int .i64 0, .int .i64 0, .int .i64 0, .int .i64 0, .int .i64 0, .int .i64 0, .int .i64 0, .int .i64 0, .bool false, .bool false, .int .i64 0, .int .i64 0, .int .i64 0, .int .i64 0, .int .i64 0] 67) = w5 := ⟨_, rfl⟩
    have hn := heap_alloc_new w (.cells #[.int .i64 0, .int .i64 0, .int .i64 0, .int .i64 0, .int .i64 0, .int .i64 0, .int .i64 0, .int .i64 0, .int .i64 0, .int .i64 0, .int .i64 0, .int .i64 0, .bool false, .bool false, .int .i64 0, .int .i64 0, .int .i64 0, .int .i64 0, .int .i64 0] 67)
    have hb5 : Below w.heap.size w w5 := by rw [← hw5]; go_grown
    rw [hw5] at hn
    rw [hw5]
    have hb6 := hb.trans (hb5.mono hb.size)
    have hg := hb.size
    have k11 := (hb5.block a11 (lt_of_heap h11)).trans h11
    have l11 := lt_of_heap h11
    refine hK.out _ _ ((hb6.block B (lt_of_heap hB)).trans hB) (fun _ => ?_)
    clear hK K
    try simp only [Act.put, List.setIfInBounds_toArray, List.set_cons_zero, List.set_cons_succ]
    exact st_3_01 (u10 := undef) (u11 := undef) (u19 := undef) (u24 := undef) (u27 := undef) hB hb6 hg hn g11 k11 (show w.heap.size ≠ a11 by omega) hN
  refine AllReadyH.cons (o := { dst := some 12, op := Go.Op.alloc 67, type := 0, pos := "law.go:33", after := #[], guard := none }) rfl (fun K hK => ?_) AllReadyH.nil
  go_simp
  obtain ⟨w5, hw5⟩ : ∃ w5, w.alloc (.cells #[.int .i64 0, .int .i64 0, .int .i64 0, .int .i64 0, .int .i64 0, .int .i64 0, .int .i64 0, .int .i64 0, .int .i64 0, .int .i64 0, .int .i64 0, .int .i64 0, .bool false, .bool false, .int .i64 0, .int .i64 0, .int .i64 0, .int .i64 0, .int .i64 0] 67) = w5 := ⟨_, rfl⟩
  have hn := heap_alloc_new w (.cells #[.int .i64 0, .int .i64 0, .int .i64 0, .int .i64 0, .int .i64 0, .int .i64 0, .int .i64 0, .int .i64 0, .int .i64 0, .int .i64 0, .int .i64 0, .int .i64 0, .bool false, .bool false, .int .i64 0, .int .i64 0, .int .i64 0, .int .i64 0, .int .i64 0] 67)
  have hb5 : Below w.heap.size w w5 := by rw [← hw5]; go_grown
  rw [hw5] at hn
  rw [hw5]
  have hb6 := hb.trans (hb5.mono hb.size)
  have hg := hb.size
  have k11 := (hb5.block a11 (lt_of_heap h11)).trans h11
  have l11 := lt_of_heap h11
  refine hK.out _ _ ((hb6.block B (lt_of_heap hB)).trans hB) (fun _ => ?_)
  clear hK K
  try simp only [Act.put, List.setIfInBounds_toArray, List.set_cons_zero, List.set_cons_succ]
  exact st_3_12 (u11 := undef) (u12 := undef) (u19 := undef) (u24 := undef) (u27 := undef) hB hb6 g11 k11 hg hn (show a11 ≠ w.heap.size by omega) hN
set_option maxRecDepth 20000 in
set_option maxHeartbeats 4000000 in
theorem st_3_2 {x : Fm} {own fn serial : Int} {B : Nat} {wR w : World} {u0 u5 u6 u7 u8 u9 u10 u11 u12 u13 u14 u15 u19 u24 u27 u28 u29 u30 u31 u32 u33 u34 u35 u36 u37 u38 u39 u40 u41 u42 u43 u44 u45 u46 u47 u48 u49 u50 u51 u52 u53 u54 u55 u56 u57 u58 u59 u60 u61 u62 u63 u64 u65 u66 : Value} {Q : Exit → Act → World → Prop} {a12 : Nat} (hB : wR.heap[B]? = some (.cells x.cs 67 (0, 0))) (hb : Below wR.heap.size wR w) (g12 : wR.heap.size ≤ a12) (h12 : w.heap[a12]? = some (.cells #[.int .i64 0, .int .i64 0, .int .i64 0, .int .i64 0, .int .i64 0, .int .i64 0, .int .i64 0, .int .i64 0, .int .i64 0, .int .i64 0, .int .i64 0, .int .i64 0, .bool false, .bool false, .int .i64 0, .int .i64 0, .int .i64 0, .int .i64 0, .int .i64 0] 67 (0, 0)))
    (hN : ∀ (a10 a11 a12 : Nat) (w' : World), Below wR.heap.size wR w' → w'.heap[a10]? = some (.cells (x.child own fn).cs 67 (0, 0)) → w'.heap[a11]? = some (.cells (x.loop own fn serial).cs 67 (0, 0)) → w'.heap[a12]? = some (.cells (x.iter own).cs 67 (0, 0)) → Q .normal ⟨#[u0, .int .i64 own, .int .i64 fn, .int .i64 serial, .pointer (some ⟨B, 0, none⟩), u5, u6, u7, u8, u9, .pointer (some ⟨a10, 0, none⟩), .pointer (some ⟨a11, 0, none⟩), .pointer (some ⟨a12, 0, none⟩), u13, u14, u15, .agg x.cs, .int .i64 own, .int .i64 fn, .agg (x.child own fn).cs, .agg x.cs, .int .i64 own, .int .i64 fn, .int .i64 serial, .agg (x.loop own fn serial).cs, .agg x.cs, .int .i64 own, .agg (x.iter own).cs, u28, u29, u30, u31, u32, u33, u34, u35, u36, u37, u38, u39, u40, u41, u42, u43, u44, u45, u46, u47, u48, u49, u50, u51, u52, u53, u54, u55, u56, u57, u58, u59, u60, u61, u62, u63, u64, u65, u66], []⟩ w') :
    wpAnyH Try.prog .any ops4 Q (fun w' => w'.heap[B]? = some (.cells x.cs 67 (0, 0))) 5 #[true, true, true, true, true, true, true, true, true, true, true, true, false, false, true, false, false, false] ⟨#[u0, .int .i64 own, .int .i64 fn, .int .i64 serial, .pointer (some ⟨B, 0, none⟩), u5, u6, u7, u8, u9, u10, u11, .pointer (some ⟨a12, 0, none⟩), u13, u14, u15, .agg x.cs, .int .i64 own, .int .i64 fn, .agg (x.child own fn).cs, .agg x.cs, .int .i64 own, .int .i64 fn, .int .i64 serial, .agg (x.loop own fn serial).cs, .agg x.cs, .int .i64 own, .agg (x.iter own).cs, u28, u29, u30, u31, u32, u33, u34, u35, u36, u37, u38, u39, u40, u41, u42, u43, u44, u45, u46, u47, u48, u49, u50, u51, u52, u53, u54, u55, u56, u57, u58, u59, u60, u61, u62, u63, u64, u65, u66], []⟩ w := by
  refine wpAnyH_ready (rs := [12, 13]) (by kernel_rfl) (by simp) ?_
  refine AllReadyH.cons (o := { dst := some 10, op := Go.Op.alloc 67, type := 0, pos := "law.go:33", after := #[], guard := none }) rfl (fun K hK => ?_) ?_
  · go_simp
    obtain ⟨w5, hw5⟩ : ∃ w5, w.alloc (.cells #[.int .i64 0, .int .i64 0, .int .i64 0, .int .i64 0, .int .i64 0, .int .i64 0, .int .i64 0, .int .i64 0, .int .i64 0, .int .i64 0, .int .i64 0, .int .i64 0, .bool false, .bool false, .int .i64 0, .int .i64 0, .int .i64 0, .int .i64 0, .int .i64 0] 67) = w5 := ⟨_, rfl⟩
    have hn := heap_alloc_new w (.cells #[.int .i64 0, .int .i64 0, .int .i64 0, .int .i64 0, .int .i64 0, .int .i64 0, .int .i64 0, .int .i64 0, .int .i64 0, .int .i64 0, .int .i64 0, .int .i64 0, .bool false, .bool false, .int .i64 0, .int .i64 0, .int .i64 0, .int .i64 0, .int .i64 0] 67)
    have hb5 : Below w.heap.size w w5 := by rw [← hw5]; go_grown
    rw [hw5] at hn
    rw [hw5]
    have hb6 := hb.trans (hb5.mono hb.size)
    have hg := hb.size
    have k12 := (hb5.block a12 (lt_of_heap h12)).trans h12
    have l12 := lt_of_heap h12
    refine hK.out _ _ ((hb6.block B (lt_of_heap hB)).trans hB) (fun _ => ?_)
    clear hK K
    try simp only [Act.put, List.setIfInBounds_toArray, List.set_cons_zero, List.set_cons_succ]
    exact st_3_02 (u10 := undef) (u12 := undef) (u19 := undef) (u24 := undef) (u27 := undef) hB hb6 hg hn g12 k12 (show w.heap.size ≠ a12 by omega) hN
  refine AllReadyH.cons (o := { dst := some 11, op := Go.Op.alloc 67, type := 0, pos := "law.go:33", after := #[], guard := none }) rfl (fun K hK => ?_) AllReadyH.nil
  go_simp
  obtain ⟨w5, hw5⟩ : ∃ w5, w.alloc (.cells #[.int .i64 0, .int .i64 0, .int .i64 0, .int .i64 0, .int .i64 0, .int .i64 0, .int .i64 0, .int .i64 0, .int .i64 0, .int .i64 0, .int .i64 0, .int .i64 0, .bool false, .bool false, .int .i64 0, .int .i64 0, .int .i64 0, .int .i64 0, .int .i64 0] 67) = w5 := ⟨_, rfl⟩
  have hn := heap_alloc_new w (.cells #[.int .i64 0, .int .i64 0, .int .i64 0, .int .i64 0, .int .i64 0, .int .i64 0, .int .i64 0, .int .i64 0, .int .i64 0, .int .i64 0, .int .i64 0, .int .i64 0, .bool false, .bool false, .int .i64 0, .int .i64 0, .int .i64 0, .int .i64 0, .int .i64 0] 67)
  have hb5 : Below w.heap.size w w5 := by rw [← hw5]; go_grown
  rw [hw5] at hn
  rw [hw5]
  have hb6 := hb.trans (hb5.mono hb.size)
  have hg := hb.size
  have k12 := (hb5.block a12 (lt_of_heap h12)).trans h12
  have l12 := lt_of_heap h12
  refine hK.out _ _ ((hb6.block B (lt_of_heap hB)).trans hB) (fun _ => ?_)
  clear hK K
  try simp only [Act.put, List.setIfInBounds_toArray, List.set_cons_zero, List.set_cons_succ]
  exact st_3_12 (u11 := undef) (u12 := undef) (u19 := undef) (u24 := undef) (u27 := undef) hB hb6 hg hn g12 k12 (show w.heap.size ≠ a12 by omega) hN
set_option maxRecDepth 20000 in
set_option maxHeartbeats 4000000 in
theorem st_0_012 {x : Fm} {own fn serial : Int} {B : Nat} {wR w : World} {u0 u5 u6 u7 u8 u9 u10 u11 u12 u13 u14 u15 u19 u24 u27 u28 u29 u30 u31 u32 u33 u34 u35 u36 u37 u38 u39 u40 u41 u42 u43 u44 u45 u46 u47 u48 u49 u50 u51 u52 u53 u54 u55 u56 u57 u58 u59 u60 u61 u62 u63 u64 u65 u66 : Value} {Q : Exit → Act → World → Prop} {a10 a11 a12 : Nat} (hB : wR.heap[B]? = some (.cells x.cs 67 (0, 0))) (hb : Below wR.heap.size wR w) (g10 : wR.heap.size ≤ a10) (h10 : w.heap[a10]? = some (.cells #[.int .i64 0, .int .i64 0, .int .i64 0, .int .i64 0, .int .i64 0, .int .i64 0, .int .i64 0, .int .i64 0, .int .i64 0, .int .i64 0, .int .i64 0, .int .i64 0, .bool false, .bool false, .int .i64 0, .int .i64 0, .int .i64 0, .int .i64 0, .int .i64 0] 67 (0, 0))) (g11 : wR.heap.size ≤ a11) (h11 : w.heap[a11]? = some (.cells #[.int .i64 0, .int .i64 0, .int .i64 0, .int .i64 0, .int .i64 0, .int .i64 0, .int .i64 0, .int .i64 0, .int .i64 0, .int .i64 0, .int .i64 0, .int .i64 0, .bool false, .bool false, .int .i64 0, .int .i64 0, .int .i64 0, .int .i64 0, .int .i64 0] 67 (0, 0))) (g12 : wR.heap.size ≤ a12) (h12 : w.heap[a12]? = some (.cells #[.int .i64 0, .int .i64 0, .int .i64 0, .int .i64 0, .int .i64 0, .int .i64 0, .int .i64 0, .int .i64 0, .int .i64 0, .int .i64 0, .int .i64 0, .int .i64 0, .bool false, .bool false, .int .i64 0, .int .i64 0, .int .i64 0, .int .i64 0, .int .i64 0] 67 (0, 0))) (n10_11 : a10 ≠ a11) (n10_12 : a10 ≠ a12) (n11_12 : a11 ≠ a12)
    (hN : ∀ (a10 a11 a12 : Nat) (w' : World), Below wR.heap.size wR w' → w'.heap[a10]? = some (.cells (x.child own fn).cs 67 (0, 0)) → w'.heap[a11]? = some (.cells (x.loop own fn serial).cs 67 (0, 0)) → w'.heap[a12]? = some (.cells (x.iter own).cs 67 (0, 0)) → Q .normal ⟨#[u0, .int .i64 own, .int .i64 fn, .int .i64 serial, .pointer (some ⟨B, 0, none⟩), u5, u6, u7, u8, u9, .pointer (some ⟨a10, 0, none⟩), .pointer (some ⟨a11, 0, none⟩), .pointer (some ⟨a12, 0, none⟩), u13, u14, u15, .agg x.cs, .int .i64 own, .int .i64 fn, .agg (x.child own fn).cs, .agg x.cs, .int .i64 own, .int .i64 fn, .int .i64 serial, .agg (x.loop own fn serial).cs, .agg x.cs, .int .i64 own, .agg (x.iter own).cs, u28, u29, u30, u31, u32, u33, u34, u35, u36, u37, u38, u39, u40, u41, u42, u43, u44, u45, u46, u47, u48, u49, u50, u51, u52, u53, u54, u55, u56, u57, u58, u59, u60, u61, u62, u63, u64, u65, u66], []⟩ w') :
    wpAnyH Try.prog .any ops4 Q (fun w' => w'.heap[B]? = some (.cells x.cs 67 (0, 0))) 6 #[true, true, true, false, true, true, true, true, false, true, true, false, true, true, true, false, false, false] ⟨#[u0, .int .i64 own, .int .i64 fn, .int .i64 serial, .pointer (some ⟨B, 0, none⟩), u5, u6, u7, u8, u9, .pointer (some ⟨a10, 0, none⟩), .pointer (some ⟨a11, 0, none⟩), .pointer (some ⟨a12, 0, none⟩), u13, u14, u15, .agg x.cs, .int .i64 own, .int .i64 fn, u19, .agg x.cs, .int .i64 own, .int .i64 fn, .int .i64 serial, u24, .agg x.cs, .int .i64 own, u27, u28, u29, u30, u31, u32, u33, u34, u35, u36, u37, u38, u39, u40, u41, u42, u43, u44, u45, u46, u47, u48, u49, u50, u51, u52, u53, u54, u55, u56, u57, u58, u59, u60, u61, u62, u63, u64, u65, u66], []⟩ w := by
  refine wpAnyH_ready (rs := [3]) (by kernel_rfl) (by simp) ?_
  refine AllReadyH.cons (o := { dst := some 19, op := Go.Op.call { callee := Go.Callee.value (Go.Operand.func 43), args := #[Go.Operand.tmp 16, Go.Operand.tmp 17, Go.Operand.tmp 18], argTypes := #[67, 3, 3] }, type := 67, pos := "law.go:33", after := #[{ on := 0, ground := Go.Ground.data }, { on := 1, ground := Go.Ground.data }, { on := 2, ground := Go.Ground.data }], guard := none }) rfl (fun K hK => ?_) AllReadyH.nil
  go_simp
  refine (child_of x own fn _).mono ?_
  rintro e w5 ⟨rfl, hb5⟩
  try simp only [go_sem]
  have hb6 := hb.trans (hb5.mono hb.size)
  have k10 := (hb5.block a10 (lt_of_heap h10)).trans h10
  have k11 := (hb5.block a11 (lt_of_heap h11)).trans h11
  have k12 := (hb5.block a12 (lt_of_heap h12)).trans h12
  refine hK.out _ _ ((hb6.block B (lt_of_heap hB)).trans hB) (fun _ => ?_)
  clear hK K
  try simp only [Act.put, List.setIfInBounds_toArray, List.set_cons_zero, List.set_cons_succ]
  exact st_1_012 (u10 := undef) (u11 := undef) (u12 := undef) (u19 := undef) hB hb6 g10 k10 g11 k11 g12 k12 n10_11 n10_12 n11_12 hN
set_option maxRecDepth 20000 in
set_option maxHeartbeats 4000000 in
theorem st_1_01 {x : Fm} {own fn serial : Int} {B : Nat} {wR w : World} {u0 u5 u6 u7 u8 u9 u10 u11 u12 u13 u14 u15 u19 u24 u27 u28 u29 u30 u31 u32 u33 u34 u35 u36 u37 u38 u39 u40 u41 u42 u43 u44 u45 u46 u47 u48 u49 u50 u51 u52 u53 u54 u55 u56 u57 u58 u59 u60 u61 u62 u63 u64 u65 u66 : Value} {Q : Exit → Act → World → Prop} {a10 a11 : Nat} (hB : wR.heap[B]? = some (.cells x.cs 67 (0, 0))) (hb : Below wR.heap.size wR w) (g10 : wR.heap.size ≤ a10) (h10 : w.heap[a10]? = some (.cells #[.int .i64 0, .int .i64 0, .int .i64 0, .int .i64 0, .int .i64 0, .int .i64 0, .int .i64 0, .int .i64 0, .int .i64 0, .int .i64 0, .int .i64 0, .int .i64 0, .bool false, .bool false, .int .i64 0, .int .i64 0, .int .i64 0, .int .i64 0, .int .i64 0] 67 (0, 0))) (g11 : wR.heap.size ≤ a11) (h11 : w.heap[a11]? = some (.cells #[.int .i64 0, .int .i64 0, .int .i64 0, .int .i64 0, .int .i64 0, .int .i64 0, .int .i64 0, .int .i64 0, .int .i64 0, .int .i64 0, .int .i64 0, .int .i64 0, .bool false, .bool false, .int .i64 0, .int .i64 0, .int .i64 0, .int .i64 0, .int .i64 0] 67 (0, 0))) (n10_11 : a10 ≠ a11)
    (hN : ∀ (a10 a11 a12 : Nat) (w' : World), Below wR.heap.size wR w' → w'.heap[a10]? = some (.cells (x.child own fn).cs 67 (0, 0)) → w'.heap[a11]? = some (.cells (x.loop own fn serial).cs 67 (0, 0)) → w'.heap[a12]? = some (.cells (x.iter own).cs 67 (0, 0)) → Q .normal ⟨#[u0, .int .i64 own, .int .i64 fn, .int .i64 serial, .pointer (some ⟨B, 0, none⟩), u5, u6, u7, u8, u9, .pointer (some ⟨a10, 0, none⟩), .pointer (some ⟨a11, 0, none⟩), .pointer (some ⟨a12, 0, none⟩), u13, u14, u15, .agg x.cs, .int .i64 own, .int .i64 fn, .agg (x.child own fn).cs, .agg x.cs, .int .i64 own, .int .i64 fn, .int .i64 serial, .agg (x.loop own fn serial).cs, .agg x.cs, .int .i64 own, .agg (x.iter own).cs, u28, u29, u30, u31, u32, u33, u34, u35, u36, u37, u38, u39, u40, u41, u42, u43, u44, u45, u46, u47, u48, u49, u50, u51, u52, u53, u54, u55, u56, u57, u58, u59, u60, u61, u62, u63, u64, u65, u66], []⟩ w') :
    wpAnyH Try.prog .any ops4 Q (fun w' => w'.heap[B]? = some (.cells x.cs 67 (0, 0))) 6 #[true, true, true, true, true, true, true, true, false, true, true, false, true, true, false, false, false, false] ⟨#[u0, .int .i64 own, .int .i64 fn, .int .i64 serial, .pointer (some ⟨B, 0, none⟩), u5, u6, u7, u8, u9, .pointer (some ⟨a10, 0, none⟩), .pointer (some ⟨a11, 0, none⟩), u12, u13, u14, u15, .agg x.cs, .int .i64 own, .int .i64 fn, .agg (x.child own fn).cs, .agg x.cs, .int .i64 own, .int .i64 fn, .int .i64 serial, u24, .agg x.cs, .int .i64 own, u27, u28, u29, u30, u31, u32, u33, u34, u35, u36, u37, u38, u39, u40, u41, u42, u43, u44, u45, u46, u47, u48, u49, u50, u51, u52, u53, u54, u55, u56, u57, u58, u59, u60, u61, u62, u63, u64, u65, u66], []⟩ w := by
  refine wpAnyH_ready (rs := [8, 14]) (by kernel_rfl) (by simp) ?_
  refine AllReadyH.cons (o := { dst := some 24, op := Go.Op.call { callee := Go.Callee.value (Go.Operand.func 44), args := #[Go.Operand.tmp 20, Go.Operand.tmp 21, Go.Operand.tmp 22, Go.Operand.tmp 23], argTypes := #[67, 3, 3, 3] }, type := 67, pos := "law.go:33", after := #[{ on := 4, ground := Go.Ground.data }, { on := 5, ground := Go.Ground.data }, { on := 6, ground := Go.Ground.data }, { on := 7, ground := Go.Ground.data }, { on := 3, ground := Go.Ground.chain }], guard := none }) rfl (fun K hK => ?_) ?_
  · go_simp
    refine (loop_of x own fn serial _).mono ?_
    rintro e w5 ⟨rfl, hb5⟩
    try simp only [go_sem]
    have hb6 := hb.trans (hb5.mono hb.size)
    have k10 := (hb5.block a10 (lt_of_heap h10)).trans h10
    have k11 := (hb5.block a11 (lt_of_heap h11)).trans h11
    refine hK.out _ _ ((hb6.block B (lt_of_heap hB)).trans hB) (fun _ => ?_)
    clear hK K
    try simp only [Act.put, List.setIfInBounds_toArray, List.set_cons_zero, List.set_cons_succ]
    exact st_2_01 (u10 := undef) (u11 := undef) (u19 := undef) (u24 := undef) hB hb6 g10 k10 g11 k11 n10_11 hN
  refine AllReadyH.cons (o := { dst := some 12, op := Go.Op.alloc 67, type := 0, pos := "law.go:33", after := #[], guard := none }) rfl (fun K hK => ?_) AllReadyH.nil
  go_simp
  obtain ⟨w5, hw5⟩ : ∃ w5, w.alloc (.cells #[.int .i64 0, .int .i64 0, .int .i64 0, .int .i64 0, .int .i64 0, .int .i64 0, .int .i64 0, .int .i64 0, .int .i64 0, .int .i64 0, .int .i64 0, .int .i64 0, .bool false, .bool false, .int .i64 0, .int .i64 0, .int .i64 0, .int .i64 0, .int .i64 0] 67) = w5 := ⟨_, rfl⟩
  have hn := heap_alloc_new w (.cells #[.int .i64 0, .int .i64 0, .int .i64 0, .int .i64 0, .int .i64 0, .int .i64 0, .int .i64 0, .int .i64 0, .int .i64 0, .int .i64 0, .int .i64 0, .int .i64 0, .bool false, .bool false, .int .i64 0, .int .i64 0, .int .i64 0, .int .i64 0, .int .i64 0] 67)
  have hb5 : Below w.heap.size w w5 := by rw [← hw5]; go_grown
  rw [hw5] at hn
  rw [hw5]
  have hb6 := hb.trans (hb5.mono hb.size)
  have hg := hb.size
  have k10 := (hb5.block a10 (lt_of_heap h10)).trans h10
  have l10 := lt_of_heap h10
  have k11 := (hb5.block a11 (lt_of_heap h11)).trans h11
  have l11 := lt_of_heap h11
  refine hK.out _ _ ((hb6.block B (lt_of_heap hB)).trans hB) (fun _ => ?_)
  clear hK K
  try simp only [Act.put, List.setIfInBounds_toArray, List.set_cons_zero, List.set_cons_succ]
  exact st_1_012 (u10 := undef) (u11 := undef) (u12 := undef) (u19 := undef) hB hb6 g10 k10 g11 k11 hg hn n10_11 (show a10 ≠ w.heap.size by omega) (show a11 ≠ w.heap.size by omega) hN
set_option maxRecDepth 20000 in
set_option maxHeartbeats 4000000 in
theorem st_1_02 {x : Fm} {own fn serial : Int} {B : Nat} {wR w : World} {u0 u5 u6 u7 u8 u9 u10 u11 u12 u13 u14 u15 u19 u24 u27 u28 u29 u30 u31 u32 u33 u34 u35 u36 u37 u38 u39 u40 u41 u42 u43 u44 u45 u46 u47 u48 u49 u50 u51 u52 u53 u54 u55 u56 u57 u58 u59 u60 u61 u62 u63 u64 u65 u66 : Value} {Q : Exit → Act → World → Prop} {a10 a12 : Nat} (hB : wR.heap[B]? = some (.cells x.cs 67 (0, 0))) (hb : Below wR.heap.size wR w) (g10 : wR.heap.size ≤ a10) (h10 : w.heap[a10]? = some (.cells #[.int .i64 0, .int .i64 0, .int .i64 0, .int .i64 0, .int .i64 0, .int .i64 0, .int .i64 0, .int .i64 0, .int .i64 0, .int .i64 0, .int .i64 0, .int .i64 0, .bool false, .bool false, .int .i64 0, .int .i64 0, .int .i64 0, .int .i64 0, .int .i64 0] 67 (0, 0))) (g12 : wR.heap.size ≤ a12) (h12 : w.heap[a12]? = some (.cells #[.int .i64 0, .int .i64 0, .int .i64 0, .int .i64 0, .int .i64 0, .int .i64 0, .int .i64 0, .int .i64 0, .int .i64 0, .int .i64 0, .int .i64 0, .int .i64 0, .bool false, .bool false, .int .i64 0, .int .i64 0, .int .i64 0, .int .i64 0, .int .i64 0] 67 (0, 0))) (n10_12 : a10 ≠ a12)
    (hN : ∀ (a10 a11 a12 : Nat) (w' : World), Below wR.heap.size wR w' → w'.heap[a10]? = some (.cells (x.child own fn).cs 67 (0, 0)) → w'.heap[a11]? = some (.cells (x.loop own fn serial).cs 67 (0, 0)) → w'.heap[a12]? = some (.cells (x.iter own).cs 67 (0, 0)) → Q .normal ⟨#[u0, .int .i64 own, .int .i64 fn, .int .i64 serial, .pointer (some ⟨B, 0, none⟩), u5, u6, u7, u8, u9, .pointer (some ⟨a10, 0, none⟩), .pointer (some ⟨a11, 0, none⟩), .pointer (some ⟨a12, 0, none⟩), u13, u14, u15, .agg x.cs, .int .i64 own, .int .i64 fn, .agg (x.child own fn).cs, .agg x.cs, .int .i64 own, .int .i64 fn, .int .i64 serial, .agg (x.loop own fn serial).cs, .agg x.cs, .int .i64 own, .agg (x.iter own).cs, u28, u29, u30, u31, u32, u33, u34, u35, u36, u37, u38, u39, u40, u41, u42, u43, u44, u45, u46, u47, u48, u49, u50, u51, u52, u53, u54, u55, u56, u57, u58, u59, u60, u61, u62, u63, u64, u65, u66], []⟩ w') :
    wpAnyH Try.prog .any ops4 Q (fun w' => w'.heap[B]? = some (.cells x.cs 67 (0, 0))) 6 #[true, true, true, true, true, true, true, true, false, true, true, false, true, false, true, false, false, false] ⟨#[u0, .int .i64 own, .int .i64 fn, .int .i64 serial, .pointer (some ⟨B, 0, none⟩), u5, u6, u7, u8, u9, .pointer (some ⟨a10, 0, none⟩), u11, .pointer (some ⟨a12, 0, none⟩), u13, u14, u15, .agg x.cs, .int .i64 own, .int .i64 fn, .agg (x.child own fn).cs, .agg x.cs, .int .i64 own, .int .i64 fn, .int .i64 serial, u24, .agg x.cs, .int .i64 own, u27, u28, u29, u30, u31, u32, u33, u34, u35, u36, u37, u38, u39, u40, u41, u42, u43, u44, u45, u46, u47, u48, u49, u50, u51, u52, u53, u54, u55, u56, u57, u58, u59, u60, u61, u62, u63, u64, u65, u66], []⟩ w := by
  refine wpAnyH_ready (rs := [8, 13]) (by kernel_rfl) (by simp) ?_
  refine AllReadyH.cons (o := { dst := some 24, op := Go.Op.call { callee := Go.Callee.value (Go.Operand.func 44), args := #[Go.Operand.tmp 20, Go.Operand.tmp 21, Go.Operand.tmp 22, Go.Operand.tmp 23], argTypes := #[67, 3, 3, 3] }, type := 67, pos := "law.go:33", after := #[{ on := 4, ground := Go.Ground.data }, { on := 5, ground := Go.Ground.data }, { on := 6, ground := Go.Ground.data }, { on := 7, ground := Go.Ground.data }, { on := 3, ground := Go.Ground.chain }], guard := none }) rfl (fun K hK => ?_) ?_
  · go_simp
    refine (loop_of x own fn serial _).mono ?_
    rintro e w5 ⟨rfl, hb5⟩
    try simp only [go_sem]
    have hb6 := hb.trans (hb5.mono hb.size)
    have k10 := (hb5.block a10 (lt_of_heap h10)).trans h10
    have k12 := (hb5.block a12 (lt_of_heap h12)).trans h12
    refine hK.out _ _ ((hb6.block B (lt_of_heap hB)).trans hB) (fun _ => ?_)
    clear hK K
    try simp only [Act.put, List.setIfInBounds_toArray, List.set_cons_zero, List.set_cons_succ]
    exact st_2_02 (u10 := undef) (u12 := undef) (u19 := undef) (u24 := undef) hB hb6 g10 k10 g12 k12 n10_12 hN
  refine AllReadyH.cons (o := { dst := some 11, op := Go.Op.alloc 67, type := 0, pos := "law.go:33", after := #[], guard := none }) rfl (fun K hK => ?_) AllReadyH.nil
  go_simp
  obtain ⟨w5, hw5⟩ : ∃ w5, w.alloc (.cells #[.int .i64 0, .int .i64 0, .int .i64 0, .int .i64 0, .int .i64 0, .int .i64 0, .int .i64 0, .int .i64 0, .int .i64 0, .int .i64 0, .int .i64 0, .int .i64 0, .bool false, .bool false, .int .i64 0, .int .i64 0, .int .i64 0, .int .i64 0, .int .i64 0] 67) = w5 := ⟨_, rfl⟩
  have hn := heap_alloc_new w (.cells #[.int .i64 0, .int .i64 0, .int .i64 0, .int .i64 0, .int .i64 0, .int .i64 0, .int .i64 0, .int .i64 0, .int .i64 0, .int .i64 0, .int .i64 0, .int .i64 0, .bool false, .bool false, .int .i64 0, .int .i64 0, .int .i64 0, .int .i64 0, .int .i64 0] 67)
  have hb5 : Below w.heap.size w w5 := by rw [← hw5]; go_grown
  rw [hw5] at hn
  rw [hw5]
  have hb6 := hb.trans (hb5.mono hb.size)
  have hg := hb.size
  have k10 := (hb5.block a10 (lt_of_heap h10)).trans h10
  have l10 := lt_of_heap h10
  have k12 := (hb5.block a12 (lt_of_heap h12)).trans h12
  have l12 := lt_of_heap h12
  refine hK.out _ _ ((hb6.block B (lt_of_heap hB)).trans hB) (fun _ => ?_)
  clear hK K
  try simp only [Act.put, List.setIfInBounds_toArray, List.set_cons_zero, List.set_cons_succ]
  exact st_1_012 (u10 := undef) (u11 := undef) (u12 := undef) (u19 := undef) hB hb6 g10 k10 hg hn g12 k12 (show a10 ≠ w.heap.size by omega) n10_12 (show w.heap.size ≠ a12 by omega) hN
set_option maxRecDepth 20000 in
set_option maxHeartbeats 4000000 in
theorem st_1_12 {x : Fm} {own fn serial : Int} {B : Nat} {wR w : World} {u0 u5 u6 u7 u8 u9 u10 u11 u12 u13 u14 u15 u19 u24 u27 u28 u29 u30 u31 u32 u33 u34 u35 u36 u37 u38 u39 u40 u41 u42 u43 u44 u45 u46 u47 u48 u49 u50 u51 u52 u53 u54 u55 u56 u57 u58 u59 u60 u61 u62 u63 u64 u65 u66 : Value} {Q : Exit → Act → World → Prop} {a11 a12 : Nat} (hB : wR.heap[B]? = some (.cells x.cs 67 (0, 0))) (hb : Below wR.heap.size wR w) (g11 : wR.heap.size ≤ a11) (h11 : w.heap[a11]? = some (.cells #[.int .i64 0, .int .i64 0, .int .i64 0, .int .i64 0, .int .i64 0, .int .i64 0, .int .i64 0, .int .i64 0, .int .i64 0, .int .i64 0, .int .i64 0, .int .i64 0, .bool false, .bool false, .int .i64 0, .int .i64 0, .int .i64 0, .int .i64 0, .int .i64 0] 67 (0, 0))) (g12 : wR.heap.size ≤ a12) (h12 : w.heap[a12]? = some (.cells #[.int .i64 0, .int .i64 0, .int .i64 0, .int .i64 0, .int .i64 0, .int .i64 0, .int .i64 0, .int .i64 0, .int .i64 0, .int .i64 0, .int .i64 0, .int .i64 0, .bool false, .bool false, .int .i64 0, .int .i64 0, .int .i64 0, .int .i64 0, .int .i64 0] 67 (0, 0))) (n11_12 : a11 ≠ a12)
    (hN : ∀ (a10 a11 a12 : Nat) (w' : World), Below wR.heap.size wR w' → w'.heap[a10]? = some (.cells (x.child own fn).cs 67 (0, 0)) → w'.heap[a11]? = some (.cells (x.loop own fn serial).cs 67 (0, 0)) → w'.heap[a12]? = some (.cells (x.iter own).cs 67 (0, 0)) → Q .normal ⟨#[u0, .int .i64 own, .int .i64 fn, .int .i64 serial, .pointer (some ⟨B, 0, none⟩), u5, u6, u7, u8, u9, .pointer (some ⟨a10, 0, none⟩), .pointer (some ⟨a11, 0, none⟩), .pointer (some ⟨a12, 0, none⟩), u13, u14, u15, .agg x.cs, .int .i64 own, .int .i64 fn, .agg (x.child own fn).cs, .agg x.cs, .int .i64 own, .int .i64 fn, .int .i64 serial, .agg (x.loop own fn serial).cs, .agg x.cs, .int .i64 own, .agg (x.iter own).cs, u28, u29, u30, u31, u32, u33, u34, u35, u36, u37, u38, u39, u40, u41, u42, u43, u44, u45, u46, u47, u48, u49, u50, u51, u52, u53, u54, u55, u56, u57, u58, u59, u60, u61, u62, u63, u64, u65, u66], []⟩ w') :
    wpAnyH Try.prog .any ops4 Q (fun w' => w'.heap[B]? = some (.cells x.cs 67 (0, 0))) 6 #[true, true, true, true, true, true, true, true, false, true, true, false, false, true, true, false, false, false] ⟨#[u0, .int .i64 own, .int .i64 fn, .int .i64 serial, .pointer (some ⟨B, 0, none⟩), u5, u6, u7, u8, u9, u10, .pointer (some ⟨a11, 0, none⟩), .pointer (some ⟨a12, 0, none⟩), u13, u14, u15, .agg x.cs, .int .i64 own, .int .i64 fn, .agg (x.child own fn).cs, .agg x.cs, .int .i64 own, .int .i64 fn, .int .i64 serial, u24, .agg x.cs, .int .i64 own, u27, u28, u29, u30, u31, u32, u33, u34, u35, u36, u37, u38, u39, u40, u41, u42, u43, u44, u45, u46, u47, u48, u49, u50, u51, u52, u53, u54, u55, u56, u57, u58, u59, u60, u61, u62, u63, u64, u65, u66], []⟩ w := by
  refine wpAnyH_ready (rs := [8, 12]) (by kernel_rfl) (by simp) ?_
  refine AllReadyH.cons (o := { dst := some 24, op := Go.Op.call { callee := Go.Callee.value (Go.Operand.func 44), args := #[Go.Operand.tmp 20, Go.Operand.tmp 21, Go.Operand.tmp 22, Go.Operand.tmp 23], argTypes := #[67, 3, 3, 3] }, type := 67, pos := "law.go:33", after := #[{ on := 4, ground := Go.Ground.data }, { on := 5, ground := Go.Ground.data }, { on := 6, ground := Go.Ground.data }, { on := 7, ground := Go.Ground.data }, { on := 3, ground := Go.Ground.chain }], guard := none }) rfl (fun K hK => ?_) ?_
  · go_simp
    refine (loop_of x own fn serial _).mono ?_
    rintro e w5 ⟨rfl, hb5⟩
    try simp only [go_sem]
    have hb6 := hb.trans (hb5.mono hb.size)
    have k11 := (hb5.block a11 (lt_of_heap h11)).trans h11
    have k12 := (hb5.block a12 (lt_of_heap h12)).trans h12
    refine hK.out _ _ ((hb6.block B (lt_of_heap hB)).trans hB) (fun _ => ?_)
    clear hK K
    try simp only [Act.put, List.setIfInBounds_toArray, List.set_cons_zero, List.set_cons_succ]
    exact st_2_12 (u11 := undef) (u12 := undef) (u19 := undef) (u24 := undef) hB hb6 g11 k11 g12 k12 n11_12 hN
  refine AllReadyH.cons (o := { dst := some 10, op := Go.Op.alloc 67, type := 0, pos := "law.go:33", after := #[], guard := none }) rfl (fun K hK => ?_) AllReadyH.nil
  go_simp
  obtain ⟨w5, hw5⟩ : ∃ w5, w.alloc (.cells #[.int .i64 0, .int .i64 0, .int .i64 0, .int .i64 0, .int .i64 0, .int .i64 0, .int .i64 0, .int .i64 0, .int .i64 0, .int .i64 0, .int .i64 0, .int .i64 0, .bool false, .bool false, .int .i64 0, .int .i64 0, .int .i64 0, .int .i64 0, .int .i64 0] 67) = w5 := ⟨_, rfl⟩
  have hn := heap_alloc_new w (.cells #[.int .i64 0, .int .i64 0, .int .i64 0, .int .i64 0, .int .i64 0, .int .i64 0, .int .i64 0, .int .i64 0, .int .i64 0, .int .i64 0, .int .i64 0, .int .i64 0, .bool false, .bool false, .int .i64 0, .int .i64 0, .int .i64 0, .int .i64 0, .int .i64 0] 67)
  have hb5 : Below w.heap.size w w5 := by rw [← hw5]; go_grown
  rw [hw5] at hn
  rw [hw5]
  have hb6 := hb.trans (hb5.mono hb.size)
  have hg := hb.size
  have k11 := (hb5.block a11 (lt_of_heap h11)).trans h11
  have l11 := lt_of_heap h11
  have k12 := (hb5.block a12 (lt_of_heap h12)).trans h12
  have l12 := lt_of_heap h12
  refine hK.out _ _ ((hb6.block B (lt_of_heap hB)).trans hB) (fun _ => ?_)
  clear hK K
  try simp only [Act.put, List.setIfInBounds_toArray, List.set_cons_zero, List.set_cons_succ]
  exact st_1_012 (u10 := undef) (u11 := undef) (u12 := undef) (u19 := undef) hB hb6 hg hn g11 k11 g12 k12 (show w.heap.size ≠ a11 by omega) (show w.heap.size ≠ a12 by omega) n11_12 hN
set_option maxRecDepth 20000 in
set_option maxHeartbeats 4000000 in
theorem st_2_0 {x : Fm} {own fn serial : Int} {B : Nat} {wR w : World} {u0 u5 u6 u7 u8 u9 u10 u11 u12 u13 u14 u15 u19 u24 u27 u28 u29 u30 u31 u32 u33 u34 u35 u36 u37 u38 u39 u40 u41 u42 u43 u44 u45 u46 u47 u48 u49 u50 u51 u52 u53 u54 u55 u56 u57 u58 u59 u60 u61 u62 u63 u64 u65 u66 : Value} {Q : Exit → Act → World → Prop} {a10 : Nat} (hB : wR.heap[B]? = some (.cells x.cs 67 (0, 0))) (hb : Below wR.heap.size wR w) (g10 : wR.heap.size ≤ a10) (h10 : w.heap[a10]? = some (.cells #[.int .i64 0, .int .i64 0, .int .i64 0, .int .i64 0, .int .i64 0, .int .i64 0, .int .i64 0, .int .i64 0, .int .i64 0, .int .i64 0, .int .i64 0, .int .i64 0, .bool false, .bool false, .int .i64 0, .int .i64 0, .int .i64 0, .int .i64 0, .int .i64 0] 67 (0, 0)))
    (hN : ∀ (a10 a11 a12 : Nat) (w' : World), Below wR.heap.size wR w' → w'.heap[a10]? = some (.cells (x.child own fn).cs 67 (0, 0)) → w'.heap[a11]? = some (.cells (x.loop own fn serial).cs 67 (0, 0)) → w'.heap[a12]? = some (.cells (x.iter own).cs 67 (0, 0)) → Q .normal ⟨#[u0, .int .i64 own, .int .i64 fn, .int .i64 serial, .pointer (some ⟨B, 0, none⟩), u5, u6, u7, u8, u9, .pointer (some ⟨a10, 0, none⟩), .pointer (some ⟨a11, 0, none⟩), .pointer (some ⟨a12, 0, none⟩), u13, u14, u15, .agg x.cs, .int .i64 own, .int .i64 fn, .agg (x.child own fn).cs, .agg x.cs, .int .i64 own, .int .i64 fn, .int .i64 serial, .agg (x.loop own fn serial).cs, .agg x.cs, .int .i64 own, .agg (x.iter own).cs, u28, u29, u30, u31, u32, u33, u34, u35, u36, u37, u38, u39, u40, u41, u42, u43, u44, u45, u46, u47, u48, u49, u50, u51, u52, u53, u54, u55, u56, u57, u58, u59, u60, u61, u62, u63, u64, u65, u66], []⟩ w') :
    wpAnyH Try.prog .any ops4 Q (fun w' => w'.heap[B]? = some (.cells x.cs 67 (0, 0))) 6 #[true, true, true, true, true, true, true, true, true, true, true, false, true, false, false, false, false, false] ⟨#[u0, .int .i64 own, .int .i64 fn, .int .i64 serial, .pointer (some ⟨B, 0, none⟩), u5, u6, u7, u8, u9, .pointer (some ⟨a10, 0, none⟩), u11, u12, u13, u14, u15, .agg x.cs, .int .i64 own, .int .i64 fn, .agg (x.child own fn).cs, .agg x.cs, .int .i64 own, .int .i64 fn, .int .i64 serial, .agg (x.loop own fn serial).cs, .agg x.cs, .int .i64 own, u27, u28, u29, u30, u31, u32, u33, u34, u35, u36, u37, u38, u39, u40, u41, u42, u43, u44, u45, u46, u47, u48, u49, u50, u51, u52, u53, u54, u55, u56, u57, u58, u59, u60, u61, u62, u63, u64, u65, u66], []⟩ w := by
  refine wpAnyH_ready (rs := [11, 13, 14]) (by kernel_rfl) (by simp) ?_
  refine AllReadyH.cons (o := { dst := some 27, op := Go.Op.call { callee := Go.Callee.value (Go.Operand.func 45), args := #[Go.Operand.tmp 25, Go.Operand.tmp 26], argTypes := #[67, 3] }, type := 67, pos := "law.go:33", after := #[{ on := 9, ground := Go.Ground.data }, { on := 10, ground := Go.Ground.data }, { on := 8, ground := Go.Ground.chain }], guard := none }) rfl (fun K hK => ?_) ?_
  · go_simp
    refine (iter_of x own _).mono ?_
    rintro e w5 ⟨rfl, hb5⟩
    try simp only [go_sem]
    have hb6 := hb.trans (hb5.mono hb.size)
    have k10 := (hb5.block a10 (lt_of_heap h10)).trans h10
    refine hK.out _ _ ((hb6.block B (lt_of_heap hB)).trans hB) (fun _ => ?_)
    clear hK K
    try simp only [Act.put, List.setIfInBounds_toArray, List.set_cons_zero, List.set_cons_succ]
    exact st_3_0 (u10 := undef) (u19 := undef) (u24 := undef) (u27 := undef) hB hb6 g10 k10 hN
  refine AllReadyH.cons (o := { dst := some 11, op := Go.Op.alloc 67, type := 0, pos := "law.go:33", after := #[], guard := none }) rfl (fun K hK => ?_) ?_
  · go_simp
    obtain ⟨w5, hw5⟩ : ∃ w5, w.alloc (.cells #[.int .i64 0, .int .i64 0, .int .i64 0, .int .i64 0, .int .i64 0, .int .i64 0, .int .i64 0, .int .i64 0, .int .i64 0, .int .i64 0, .int .i64 0, .int .i64 0, .bool false, .bool false, .int .i64 0, .int .i64 0, .int .i64 0, .int .i64 0, .int .i64 0] 67) = w5 := ⟨_, rfl⟩
    have hn := heap_alloc_new w (.cells #[.int .i64 0, .int .i64 0, .int .i64 0, .int .i64 0, .int .i64 0, .int .i64 0, .int .i64 0, .int .i64 0, .int .i64 0, .int .i64 0, .int .i64 0, .int .i64 0, .bool false, .bool false, .int .i64 0, .int .i64 0, .int .i64 0, .int .i64 0, .int .i64 0] 67)
    have hb5 : Below w.heap.size w w5 := by rw [← hw5]; go_grown
    rw [hw5] at hn
    rw [hw5]
    have hb6 := hb.trans (hb5.mono hb.size)
    have hg := hb.size
    have k10 := (hb5.block a10 (lt_of_heap h10)).trans h10
    have l10 := lt_of_heap h10
    refine hK.out _ _ ((hb6.block B (lt_of_heap hB)).trans hB) (fun _ => ?_)
    clear hK K
    try simp only [Act.put, List.setIfInBounds_toArray, List.set_cons_zero, List.set_cons_succ]
    exact st_2_01 (u10 := undef) (u11 := undef) (u19 := undef) (u24 := undef) hB hb6 g10 k10 hg hn (show a10 ≠ w.heap.size by omega) hN
  refine AllReadyH.cons (o := { dst := some 12, op := Go.Op.alloc 67, type := 0, pos := "law.go:33", after := #[], guard := none }) rfl (fun K hK => ?_) AllReadyH.nil
  go_simp
  obtain ⟨w5, hw5⟩ : ∃ w5, w.alloc (.cells #[.int .i64 0, .int .i64 0, .int .i64 0, .int .i64 0, .int .i64 0, .int .i64 0, .int .i64 0, .int .i64 0, .int .i64 0, .int .i64 0, .int .i64 0, .int .i64 0, .bool false, .bool false, .int .i64 0, .int .i64 0, .int .i64 0, .int .i64 0, .int .i64 0] 67) = w5 := ⟨_, rfl⟩
  have hn := heap_alloc_new w (.cells #[.int .i64 0, .int .i64 0, .int .i64 0, .int .i64 0, .int .i64 0, .int .i64 0, .int .i64 0, .int .i64 0, .int .i64 0, .int .i64 0, .int .i64 0, .int .i64 0, .bool false, .bool false, .int .i64 0, .int .i64 0, .int .i64 0, .int .i64 0, .int .i64 0] 67)
  have hb5 : Below w.heap.size w w5 := by rw [← hw5]; go_grown
  rw [hw5] at hn
  rw [hw5]
  have hb6 := hb.trans (hb5.mono hb.size)
  have hg := hb.size
  have k10 := (hb5.block a10 (lt_of_heap h10)).trans h10
  have l10 := lt_of_heap h10
  refine hK.out _ _ ((hb6.block B (lt_of_heap hB)).trans hB) (fun _ => ?_)
  clear hK K
  try simp only [Act.put, List.setIfInBounds_toArray, List.set_cons_zero, List.set_cons_succ]
  exact st_2_02 (u10 := undef) (u12 := undef) (u19 := undef) (u24 := undef) hB hb6 g10 k10 hg hn (show a10 ≠ w.heap.size by omega) hN
set_option maxRecDepth 20000 in
set_option maxHeartbeats 4000000 in
theorem st_2_1 {x : Fm} {own fn serial : Int} {B : Nat} {wR w : World} {u0 u5 u6 u7 u8 u9 u10 u11 u12 u13 u14 u15 u19 u24 u27 u28 u29 u30 u31 u32 u33 u34 u35 u36 u37 u38 u39 u40 u41 u42 u43 u44 u45 u46 u47 u48 u49 u50 u51 u52 u53 u54 u55 u56 u57 u58 u59 u60 u61 u62 u63 u64 u65 u66 : Value} {Q : Exit → Act → World → Prop} {a11 : Nat} (hB : wR.heap[B]? = some (.cells x.cs 67 (0, 0))) (hb : Below wR.heap.size wR w) (g11 : wR.heap.size ≤ a11) (h11 : w.heap[a11]? = some (.cells #[.int .i64 0, .int .i64 0, .int .i64 0, .int .i64 0, .int .i64 0, .int .i64 0, .int .i64 0, .int .i64 0, .int .i64 0, .int .i64 0, .int .i64 0, .int .i64 0, .bool false, .bool false, .int .i64 0, .int .i64 0, .int .i64 0, .int .i64 0, .int .i64 0] 67 (0, 0)))
    (hN : ∀ (a10 a11 a12 : Nat) (w' : World), Below wR.heap.size wR w' → w'.heap[a10]? = some (.cells (x.child own fn).cs 67 (0, 0)) → w'.heap[a11]? = some (.cells (x.loop own fn serial).cs 67 (0, 0)) → w'.heap[a12]? = some (.cells (x.iter own).cs 67 (0, 0)) → Q .normal ⟨#[u0, .int .i64 own, .int .i64 fn, .int .i64 serial, .pointer (some ⟨B, 0, none⟩), u5, u6, u7, u8, u9, .pointer (some ⟨a10, 0, none⟩), .pointer (some ⟨a11, 0, none⟩), .pointer (some ⟨a12, 0, none⟩), u13, u14, u15, .agg x.cs, .int .i64 own, .int .i64 fn, .agg (x.child own fn).cs, .agg x.cs, .int .i64 own, .int .i64 fn, .int .i64 serial, .agg (x.loop own fn serial).cs, .agg x.cs, .int .i64 own, .agg (x.iter own).cs, u28, u29, u30, u31, u32, u33, u34, u35, u36, u37, u38, u39, u40, u41, u42, u43, u44, u45, u46, u47, u48, u49, u50, u51, u52, u53, u54, u55, u56, u57, u58, u59, u60, u61, u62, u63, u64, u65, u66], []⟩ w') :
    wpAnyH Try.prog .any ops4 Q (fun w' => w'.heap[B]? = some (.cells x.cs 67 (0, 0))) 6 #[true, true, true, true, true, true, true, true, true, true, true, false, false, true, false, false, false, false] ⟨#[u0, .int .i64 own, .int .i64 fn, .int .i64 serial, .pointer (some ⟨B, 0, none⟩), u5, u6, u7, u8, u9, u10, .pointer (some ⟨a11, 0, none⟩), u12, u13, u14, u15, .agg x.cs, .int .i64 own, .int .i64 fn, .agg (x.child own fn).cs, .agg x.cs, .int .i64 own, .int .i64 fn, .int .i64 serial, .agg (x.loop own fn serial).cs, .agg x.cs, .int .i64 own, u27, u28, u29, u30, u31, u32, u33, u34, u35, u36, u37, u38, u39, u40, u41, u42, u43, u44, u45, u46, u47, u48, u49, u50, u51, u52, u53, u54, u55, u56, u57, u58, u59, u60, u61, u62, u63, u64, u65, u66], []⟩ w := by
  refine wpAnyH_ready (rs := [11, 12, 14]) (by kernel_rfl) (by simp) ?_
  refine AllReadyH.cons (o := { dst := some 27, op := Go.Op.call { callee := Go.Callee.value (Go.Operand.func 45), args := #[Go.Operand.tmp 25, Go.Operand.tmp 26], argTypes := #[67, 3] }, type := 67, pos := "law.go:33", after := #[{ on := 9, ground := Go.Ground.data }, { on := 10, ground := Go.Ground.data }, { on := 8, ground := Go.Ground.chain }], guard := none }) rfl (fun K hK => ?_) ?_
  · go_simp
    refine (iter_of x own _).mono ?_
    rintro e w5 ⟨rfl, hb5⟩
    try simp only [go_sem]
    have hb6 := hb.trans (hb5.mono hb.size)
    have k11 := (hb5.block a11 (lt_of_heap h11)).trans h11
    refine hK.out _ _ ((hb6.block B (lt_of_heap hB)).trans hB) (fun _ => ?_)
    clear hK K
    try simp only [Act.put, List.setIfInBounds_toArray, List.set_cons_zero, List.set_cons_succ]
    exact st_3_1 (u11 := undef) (u19 := undef) (u24 := undef) (u27 := undef) hB hb6 g11 k11 hN
  refine AllReadyH.cons (o := { dst := some 10, op := Go.Op.alloc 67, type := 0, pos := "law.go:33", after := #[], guard := none }) rfl (fun K hK => ?_) ?_
  · go_simp
    obtain ⟨w5, hw5⟩ : ∃ w5, w.alloc (.cells #[.int .i64 0, .int .i64 0, .int .i64 0, .int .i64 0, .int .i64 0, .int .i64 0, .int .i64 0, .int .i64 0, .int .i64 0, .int .i64 0, .int .i64 0, .int .i64 0, .bool false, .bool false, .int .i64 0, .int .i64 0, .int .i64 0, .int .i64 0, .int .i64 0] 67) = w5 := ⟨_, rfl⟩
    have hn := heap_alloc_new w (.cells #[.int .i64 0, .int .i64 0, .int .i64 0, .int .i64 0, .int .i64 0, .int .i64 0, .int .i64 0, .int .i64 0, .int .i64 0, .int .i64 0, .int .i64 0, .int .i64 0, .bool false, .bool false, .int .i64 0, .int .i64 0, .int .i64 0, .int .i64 0, .int .i64 0] 67)
    have hb5 : Below w.heap.size w w5 := by rw [← hw5]; go_grown
    rw [hw5] at hn
    rw [hw5]
    have hb6 := hb.trans (hb5.mono hb.size)
    have hg := hb.size
    have k11 := (hb5.block a11 (lt_of_heap h11)).trans h11
    have l11 := lt_of_heap h11
    refine hK.out _ _ ((hb6.block B (lt_of_heap hB)).trans hB) (fun _ => ?_)
    clear hK K
    try simp only [Act.put, List.setIfInBounds_toArray, List.set_cons_zero, List.set_cons_succ]
    exact st_2_01 (u10 := undef) (u11 := undef) (u19 := undef) (u24 := undef) hB hb6 hg hn g11 k11 (show w.heap.size ≠ a11 by omega) hN
  refine AllReadyH.cons (o := { dst := some 12, op := Go.Op.alloc 67, type := 0, pos := "law.go:33", after := #[], guard := none }) rfl (fun K hK => ?_) AllReadyH.nil
  go_simp
  obtain ⟨w5, hw5⟩ : ∃ w5, w.alloc (.cells #[.int .i64 0, .int .i64 0, .int .i64 0, .int .i64 0, .int .i64 0, .int .i64 0, .int .i64 0, .int .i64 0, .int .i64 0, .int .i64 0, .int .i64 0, .int .i64 0, .bool false, .bool false, .int .i64 0, .int .i64 0, .int .i64 0, .int .i64 0, .int .i64 0] 67) = w5 := ⟨_, rfl⟩
  have hn := heap_alloc_new w (.cells #[.int .i64 0, .int .i64 0, .int .i64 0, .int .i64 0, .int .i64 0, .int .i64 0, .int .i64 0, .int .i64 0, .int .i64 0, .int .i64 0, .int .i64 0, .int .i64 0, .bool false, .bool false, .int .i64 0, .int .i64 0, .int .i64 0, .int .i64 0, .int .i64 0] 67)
  have hb5 : Below w.heap.size w w5 := by rw [← hw5]; go_grown
  rw [hw5] at hn
  rw [hw5]
  have hb6 := hb.trans (hb5.mono hb.size)
  have hg := hb.size
  have k11 := (hb5.block a11 (lt_of_heap h11)).trans h11
  have l11 := lt_of_heap h11
  refine hK.out _ _ ((hb6.block B (lt_of_heap hB)).trans hB) (fun _ => ?_)
  clear hK K
  try simp only [Act.put, List.setIfInBounds_toArray, List.set_cons_zero, List.set_cons_succ]
  exact st_2_12 (u11 := undef) (u12 := undef) (u19 := undef) (u24 := undef) hB hb6 g11 k11 hg hn (show a11 ≠ w.heap.size by omega) hN
set_option maxRecDepth 20000 in
set_option maxHeartbeats 4000000 in
theorem st_2_2 {x : Fm} {own fn serial : Int} {B : Nat} {wR w : World} {u0 u5 u6 u7 u8 u9 u10 u11 u12 u13 u14 u15 u19 u24 u27 u28 u29 u30 u31 u32 u33 u34 u35 u36 u37 u38 u39 u40 u41 u42 u43 u44 u45 u46 u47 u48 u49 u50 u51 u52 u53 u54 u55 u56 u57 u58 u59 u60 u61 u62 u63 u64 u65 u66 : Value} {Q : Exit → Act → World → Prop} {a12 : Nat} (hB : wR.heap[B]? = some (.cells x.cs 67 (0, 0))) (hb : Below wR.heap.size wR w) (g12 : wR.heap.size ≤ a12) (h12 : w.heap[a12]? = some (.cells #[.int .i64 0, .int .i64 0, .int .i64 0, .int .i64 0, .int .i64 0, .int .i64 0, .int .i64 0, .int .i64 0, .int .i64 0, .int .i64 0, .int .i64 0, .int .i64 0, .bool false, .bool false, .int .i64 0, .int .i64 0, .int .i64 0, .int .i64 0, .int .i64 0] 67 (0, 0)))
    (hN : ∀ (a10 a11 a12 : Nat) (w' : World), Below wR.heap.size wR w' → w'.heap[a10]? = some (.cells (x.child own fn).cs 67 (0, 0)) → w'.heap[a11]? = some (.cells (x.loop own fn serial).cs 67 (0, 0)) → w'.heap[a12]? = some (.cells (x.iter own).cs 67 (0, 0)) → Q .normal ⟨#[u0, .int .i64 own, .int .i64 fn, .int .i64 serial, .pointer (some ⟨B, 0, none⟩), u5, u6, u7, u8, u9, .pointer (some ⟨a10, 0, none⟩), .pointer (some ⟨a11, 0, none⟩), .pointer (some ⟨a12, 0, none⟩), u13, u14, u15, .agg x.cs, .int .i64 own, .int .i64 fn, .agg (x.child own fn).cs, .agg x.cs, .int .i64 own, .int .i64 fn, .int .i64 serial, .agg (x.loop own fn serial).cs, .agg x.cs, .int .i64 own, .agg (x.iter own).cs, u28, u29, u30, u31, u32, u33, u34, u35, u36, u37, u38, u39, u40, u41, u42, u43, u44, u45, u46, u47, u48, u49, u50, u51, u52, u53, u54, u55, u56, u57, u58, u59, u60, u61, u62, u63, u64, u65, u66], []⟩ w') :
    wpAnyH Try.prog .any ops4 Q (fun w' => w'.heap[B]? = some (.cells x.cs 67 (0, 0))) 6 #[true, true, true, true, true, true, true, true, true, true, true, false, false, false, true, false, false, false] ⟨#[u0, .int .i64 own, .int .i64 fn, .int .i64 serial, .pointer (some ⟨B, 0, none⟩), u5, u6, u7, u8, u9, u10, u11, .pointer (some ⟨a12, 0, none⟩), u13, u14, u15, .agg x.cs, .int .i64 own, .int .i64 fn, .agg (x.child own fn).cs, .agg x.cs, .int .i64 own, .int .i64 fn, .int .i64 serial, .agg (x.loop own fn serial).cs, .agg x.cs, .int .i64 own, u27, u28, u29, u30, u31, u32, u33, u34, u35, u36, u37, u38, u39, u40, u41, u42, u43, u44, u45, u46, u47, u48, u49, u50, u51, u52, u53, u54, u55, u56, u57, u58, u59, u60, u61, u62, u63, u64, u65, u66], []⟩ w := by
  refine wpAnyH_ready (rs := [11, 12, 13]) (by kernel_rfl) (by simp) ?_
  refine AllReadyH.cons (o := { dst := some 27, op := Go.Op.call { callee := Go.Callee.value (Go.Operand.func 45), args := #[Go.Operand.tmp 25, Go.Operand.tmp 26], argTypes := #[67, 3] }, type := 67, pos := "law.go:33", after := #[{ on := 9, ground := Go.Ground.data }, { on := 10, ground := Go.Ground.data }, { on := 8, ground := Go.Ground.chain }], guard := none }) rfl (fun K hK => ?_) ?_
  · go_simp
    refine (iter_of x own _).mono ?_
    rintro e w5 ⟨rfl, hb5⟩
    try simp only [go_sem]
    have hb6 := hb.trans (hb5.mono hb.size)
    have k12 := (hb5.block a12 (lt_of_heap h12)).trans h12
    refine hK.out _ _ ((hb6.block B (lt_of_heap hB)).trans hB) (fun _ => ?_)
    clear hK K
    try simp only [Act.put, List.setIfInBounds_toArray, List.set_cons_zero, List.set_cons_succ]
    exact st_3_2 (u12 := undef) (u19 := undef) (u24 := undef) (u27 := undef) hB hb6 g12 k12 hN
  refine AllReadyH.cons (o := { dst := some 10, op := Go.Op.alloc 67, type := 0, pos := "law.go:33", after := #[], guard := none }) rfl (fun K hK => ?_) ?_
  · go_simp
    obtain ⟨w5, hw5⟩ : ∃ w5, w.alloc (.cells #[.int .i64 0, .int .i64 0, .int .i64 0, .int .i64 0, .int .i64 0, .int .i64 0, .int .i64 0, .int .i64 0, .int .i64 0, .int .i64 0, .int .i64 0, .int .i64 0, .bool false, .bool false, .int .i64 0, .int .i64 0, .int .i64 0, .int .i64 0, .int .i64 0] 67) = w5 := ⟨_, rfl⟩
    have hn := heap_alloc_new w (.cells #[.int .i64 0, .int .i64 0, .int .i64 0, .int .i64 0, .int .i64 0, .int .i64 0, .int .i64 0, .int .i64 0, .int .i64 0, .int .i64 0, .int .i64 0, .int .i64 0, .bool false, .bool false, .int .i64 0, .int .i64 0, .int .i64 0, .int .i64 0, .int .i64 0] 67)
    have hb5 : Below w.heap.size w w5 := by rw [← hw5]; go_grown
    rw [hw5] at hn
    rw [hw5]
    have hb6 := hb.trans (hb5.mono hb.size)
    have hg := hb.size
    have k12 := (hb5.block a12 (lt_of_heap h12)).trans h12
    have l12 := lt_of_heap h12
    refine hK.out _ _ ((hb6.block B (lt_of_heap hB)).trans hB) (fun _ => ?_)
    clear hK K
    try simp only [Act.put, List.setIfInBounds_toArray, List.set_cons_zero, List.set_cons_succ]
    exact st_2_02 (u10 := undef) (u12 := undef) (u19 := undef) (u24 := undef) hB hb6 hg hn g12 k12 (show w.heap.size ≠ a12 by omega) hN
  refine AllReadyH.cons (o := { dst := some 11, op := Go.Op.alloc 67, type := 0, pos := "law.go:33", after := #[], guard := none }) rfl (fun K hK => ?_) AllReadyH.nil
  go_simp
  obtain ⟨w5, hw5⟩ : ∃ w5, w.alloc (.cells #[.int .i64 0, .int .i64 0, .int .i64 0, .int .i64 0, .int .i64 0, .int .i64 0, .int .i64 0, .int .i64 0, .int .i64 0, .int .i64 0, .int .i64 0, .int .i64 0, .bool false, .bool false, .int .i64 0, .int .i64 0, .int .i64 0, .int .i64 0, .int .i64 0] 67) = w5 := ⟨_, rfl⟩
  have hn := heap_alloc_new w (.cells #[.int .i64 0, .int .i64 0, .int .i64 0, .int .i64 0, .int .i64 0, .int .i64 0, .int .i64 0, .int .i64 0, .int .i64 0, .int .i64 0, .int .i64 0, .int .i64 0, .bool false, .bool false, .int .i64 0, .int .i64 0, .int .i64 0, .int .i64 0, .int .i64 0] 67)
  have hb5 : Below w.heap.size w w5 := by rw [← hw5]; go_grown
  rw [hw5] at hn
  rw [hw5]
  have hb6 := hb.trans (hb5.mono hb.size)
  have hg := hb.size
  have k12 := (hb5.block a12 (lt_of_heap h12)).trans h12
  have l12 := lt_of_heap h12
  refine hK.out _ _ ((hb6.block B (lt_of_heap hB)).trans hB) (fun _ => ?_)
  clear hK K
  try simp only [Act.put, List.setIfInBounds_toArray, List.set_cons_zero, List.set_cons_succ]
  exact st_2_12 (u11 := undef) (u12 := undef) (u19 := undef) (u24 := undef) hB hb6 hg hn g12 k12 (show w.heap.size ≠ a12 by omega) hN
set_option maxRecDepth 20000 in
set_option maxHeartbeats 4000000 in
theorem st_3_n {x : Fm} {own fn serial : Int} {B : Nat} {wR w : World} {u0 u5 u6 u7 u8 u9 u10 u11 u12 u13 u14 u15 u19 u24 u27 u28 u29 u30 u31 u32 u33 u34 u35 u36 u37 u38 u39 u40 u41 u42 u43 u44 u45 u46 u47 u48 u49 u50 u51 u52 u53 u54 u55 u56 u57 u58 u59 u60 u61 u62 u63 u64 u65 u66 : Value} {Q : Exit → Act → World → Prop} (hB : wR.heap[B]? = some (.cells x.cs 67 (0, 0))) (hb : Below wR.heap.size wR w)
    (hN : ∀ (a10 a11 a12 : Nat) (w' : World), Below wR.heap.size wR w' → w'.heap[a10]? = some (.cells (x.child own fn).cs 67 (0, 0)) → w'.heap[a11]? = some (.cells (x.loop own fn serial).cs 67 (0, 0)) → w'.heap[a12]? = some (.cells (x.iter own).cs 67 (0, 0)) → Q .normal ⟨#[u0, .int .i64 own, .int .i64 fn, .int .i64 serial, .pointer (some ⟨B, 0, none⟩), u5, u6, u7, u8, u9, .pointer (some ⟨a10, 0, none⟩), .pointer (some ⟨a11, 0, none⟩), .pointer (some ⟨a12, 0, none⟩), u13, u14, u15, .agg x.cs, .int .i64 own, .int .i64 fn, .agg (x.child own fn).cs, .agg x.cs, .int .i64 own, .int .i64 fn, .int .i64 serial, .agg (x.loop own fn serial).cs, .agg x.cs, .int .i64 own, .agg (x.iter own).cs, u28, u29, u30, u31, u32, u33, u34, u35, u36, u37, u38, u39, u40, u41, u42, u43, u44, u45, u46, u47, u48, u49, u50, u51, u52, u53, u54, u55, u56, u57, u58, u59, u60, u61, u62, u63, u64, u65, u66], []⟩ w') :
    wpAnyH Try.prog .any ops4 Q (fun w' => w'.heap[B]? = some (.cells x.cs 67 (0, 0))) 6 #[true, true, true, true, true, true, true, true, true, true, true, true, false, false, false, false, false, false] ⟨#[u0, .int .i64 own, .int .i64 fn, .int .i64 serial, .pointer (some ⟨B, 0, none⟩), u5, u6, u7, u8, u9, u10, u11, u12, u13, u14, u15, .agg x.cs, .int .i64 own, .int .i64 fn, .agg (x.child own fn).cs, .agg x.cs, .int .i64 own, .int .i64 fn, .int .i64 serial, .agg (x.loop own fn serial).cs, .agg x.cs, .int .i64 own, .agg (x.iter own).cs, u28, u29, u30, u31, u32, u33, u34, u35, u36, u37, u38, u39, u40, u41, u42, u43, u44, u45, u46, u47, u48, u49, u50, u51, u52, u53, u54, u55, u56, u57, u58, u59, u60, u61, u62, u63, u64, u65, u66], []⟩ w := by
  refine wpAnyH_ready (rs := [12, 13, 14]) (by kernel_rfl) (by simp) ?_
  refine AllReadyH.cons (o := { dst := some 10, op := Go.Op.alloc 67, type := 0, pos := "law.go:33", after := #[], guard := none }) rfl (fun K hK => ?_) ?_
  · go_simp
    obtain ⟨w5, hw5⟩ : ∃ w5, w.alloc (.cells #[.int .i64 0, .int .i64 0, .int .i64 0, .int .i64 0, .int .i64 0, .int .i64 0, .int .i64 0, .int .i64 0, .int .i64 0, .int .i64 0, .int .i64 0, .int .i64 0, .bool false, .bool false, .int .i64 0, .int .i64 0, .int .i64 0, .int .i64 0, .int .i64 0] 67) = w5 := ⟨_, rfl⟩
    have hn := heap_alloc_new w (.cells #[.int .i64 0, .int .i64 0, .int .i64 0, .int .i64 0, .int .i64 0, .int .i64 0, .int .i64 0, .int .i64 0, .int .i64 0, .int .i64 0, .int .i64 0, .int .i64 0, .bool false, .bool false, .int .i64 0, .int .i64 0, .int .i64 0, .int .i64 0, .int .i64 0] 67)
    have hb5 : Below w.heap.size w w5 := by rw [← hw5]; go_grown
    rw [hw5] at hn
    rw [hw5]
    have hb6 := hb.trans (hb5.mono hb.size)
    have hg := hb.size
    refine hK.out _ _ ((hb6.block B (lt_of_heap hB)).trans hB) (fun _ => ?_)
    clear hK K
    try simp only [Act.put, List.setIfInBounds_toArray, List.set_cons_zero, List.set_cons_succ]
    exact st_3_0 (u10 := undef) (u19 := undef) (u24 := undef) (u27 := undef) hB hb6 hg hn hN
  refine AllReadyH.cons (o := { dst := some 11, op := Go.Op.alloc 67, type := 0, pos := "law.go:33", after := #[], guard := none }) rfl (fun K hK => ?_) ?_
  · go_simp
    obtain ⟨w5, hw5⟩ : ∃ w5, w.alloc (.cells #[.int .i64 0, .int .i64 0, .int .i64 0, .int .i64 0, .int .i64 0, .int .i64 0, .int .i64 0, .int .i64 0, .int .i64 0, .int .i64 0, .int .i64 0, .int .i64 0, .bool false, .bool false, .int .i64 0, .int .i64 0, .int .i64 0, .int .i64 0, .int .i64 0] 67) = w5 := ⟨_, rfl⟩
    have hn := heap_alloc_new w (.cells #[.int .i64 0, .int .i64 0, .int .i64 0, .int .i64 0, .int .i64 0, .int .i64 0, .int .i64 0, .int .i64 0, .int .i64 0, .int .i64 0, .int .i64 0, .int .i64 0, .bool false, .bool false, .int .i64 0, .int .i64 0, .int .i64 0, .int .i64 0, .int .i64 0] 67)
    have hb5 : Below w.heap.size w w5 := by rw [← hw5]; go_grown
    rw [hw5] at hn
    rw [hw5]
    have hb6 := hb.trans (hb5.mono hb.size)
    have hg := hb.size
    refine hK.out _ _ ((hb6.block B (lt_of_heap hB)).trans hB) (fun _ => ?_)
    clear hK K
    try simp only [Act.put, List.setIfInBounds_toArray, List.set_cons_zero, List.set_cons_succ]
    exact st_3_1 (u11 := undef) (u19 := undef) (u24 := undef) (u27 := undef) hB hb6 hg hn hN
  refine AllReadyH.cons (o := { dst := some 12, op := Go.Op.alloc 67, type := 0, pos := "law.go:33", after := #[], guard := none }) rfl (fun K hK => ?_) AllReadyH.nil
  go_simp
  obtain ⟨w5, hw5⟩ : ∃ w5, w.alloc (.cells #[.int .i64 0, .int .i64 0, .int .i64 0, .int .i64 0, .int .i64 0, .int .i64 0, .int .i64 0, .int .i64 0, .int .i64 0, .int .i64 0, .int .i64 0, .int .i64 0, .bool false, .bool false, .int .i64 0, .int .i64 0, .int .i64 0, .int .i64 0, .int .i64 0] 67) = w5 := ⟨_, rfl⟩
  have hn := heap_alloc_new w (.cells #[.int .i64 0, .int .i64 0, .int .i64 0, .int .i64 0, .int .i64 0, .int .i64 0, .int .i64 0, .int .i64 0, .int .i64 0, .int .i64 0, .int .i64 0, .int .i64 0, .bool false, .bool false, .int .i64 0, .int .i64 0, .int .i64 0, .int .i64 0, .int .i64 0] 67)
  have hb5 : Below w.heap.size w w5 := by rw [← hw5]; go_grown
  rw [hw5] at hn
  rw [hw5]
  have hb6 := hb.trans (hb5.mono hb.size)
  have hg := hb.size
  refine hK.out _ _ ((hb6.block B (lt_of_heap hB)).trans hB) (fun _ => ?_)
  clear hK K
  try simp only [Act.put, List.setIfInBounds_toArray, List.set_cons_zero, List.set_cons_succ]
  exact st_3_2 (u12 := undef) (u19 := undef) (u24 := undef) (u27 := undef) hB hb6 hg hn hN
set_option maxRecDepth 20000 in
set_option maxHeartbeats 4000000 in
theorem st_0_01 {x : Fm} {own fn serial : Int} {B : Nat} {wR w : World} {u0 u5 u6 u7 u8 u9 u10 u11 u12 u13 u14 u15 u19 u24 u27 u28 u29 u30 u31 u32 u33 u34 u35 u36 u37 u38 u39 u40 u41 u42 u43 u44 u45 u46 u47 u48 u49 u50 u51 u52 u53 u54 u55 u56 u57 u58 u59 u60 u61 u62 u63 u64 u65 u66 : Value} {Q : Exit → Act → World → Prop} {a10 a11 : Nat} (hB : wR.heap[B]? = some (.cells x.cs 67 (0, 0))) (hb : Below wR.heap.size wR w) (g10 : wR.heap.size ≤ a10) (h10 : w.heap[a10]? = some (.cells #[.int .i64 0, .int .i64 0, .int .i64 0, .int .i64 0, .int .i64 0, .int .i64 0, .int .i64 0, .int .i64 0, .int .i64 0, .int .i64 0, .int .i64 0, .int .i64 0, .bool false, .bool false, .int .i64 0, .int .i64 0, .int .i64 0, .int .i64 0, .int .i64 0] 67 (0, 0))) (g11 : wR.heap.size ≤ a11) (h11 : w.heap[a11]? = some (.cells #[.int .i64 0, .int .i64 0, .int .i64 0, .int .i64 0, .int .i64 0, .int .i64 0, .int .i64 0, .int .i64 0, .int .i64 0, .int .i64 0, .int .i64 0, .int .i64 0, .bool false, .bool false, .int .i64 0, .int .i64 0, .int .i64 0, .int .i64 0, .int .i64 0] 67 (0, 0))) (n10_11 : a10 ≠ a11)
    (hN : ∀ (a10 a11 a12 : Nat) (w' : World), Below wR.heap.size wR w' → w'.heap[a10]? = some (.cells (x.child own fn).cs 67 (0, 0)) → w'.heap[a11]? = some (.cells (x.loop own fn serial).cs 67 (0, 0)) → w'.heap[a12]? = some (.cells (x.iter own).cs 67 (0, 0)) → Q .normal ⟨#[u0, .int .i64 own, .int .i64 fn, .int .i64 serial, .pointer (some ⟨B, 0, none⟩), u5, u6, u7, u8, u9, .pointer (some ⟨a10, 0, none⟩), .pointer (some ⟨a11, 0, none⟩), .pointer (some ⟨a12, 0, none⟩), u13, u14, u15, .agg x.cs, .int .i64 own, .int .i64 fn, .agg (x.child own fn).cs, .agg x.cs, .int .i64 own, .int .i64 fn, .int .i64 serial, .agg (x.loop own fn serial).cs, .agg x.cs, .int .i64 own, .agg (x.iter own).cs, u28, u29, u30, u31, u32, u33, u34, u35, u36, u37, u38, u39, u40, u41, u42, u43, u44, u45, u46, u47, u48, u49, u50, u51, u52, u53, u54, u55, u56, u57, u58, u59, u60, u61, u62, u63, u64, u65, u66], []⟩ w') :
    wpAnyH Try.prog .any ops4 Q (fun w' => w'.heap[B]? = some (.cells x.cs 67 (0, 0))) 7 #[true, true, true, false, true, true, true, true, false, true, true, false, true, true, false, false, false, false] ⟨#[u0, .int .i64 own, .int .i64 fn, .int .i64 serial, .pointer (some ⟨B, 0, none⟩), u5, u6, u7, u8, u9, .pointer (some ⟨a10, 0, none⟩), .pointer (some ⟨a11, 0, none⟩), u12, u13, u14, u15, .agg x.cs, .int .i64 own, .int .i64 fn, u19, .agg x.cs, .int .i64 own, .int .i64 fn, .int .i64 serial, u24, .agg x.cs, .int .i64 own, u27, u28, u29, u30, u31, u32, u33, u34, u35, u36, u37, u38, u39, u40, u41, u42, u43, u44, u45, u46, u47, u48, u49, u50, u51, u52, u53, u54, u55, u56, u57, u58, u59, u60, u61, u62, u63, u64, u65, u66], []⟩ w := by
  refine wpAnyH_ready (rs := [3, 14]) (by kernel_rfl) (by simp) ?_
  refine AllReadyH.cons (o := { dst := some 19, op := Go.Op.call { callee := Go.Callee.value (Go.Operand.func 43), args := #[Go.Operand.tmp 16, Go.Operand.tmp 17, Go.Operand.tmp 18], argTypes := #[67, 3, 3] }, type := 67, pos := "law.go:33", after := #[{ on := 0, ground := Go.Ground.data }, { on := 1, ground := Go.Ground.data }, { on := 2, ground := Go.Ground.data }], guard := none }) rfl (fun K hK => ?_) ?_
  · go_simp
    refine (child_of x own fn _).mono ?_
    rintro e w5 ⟨rfl, hb5⟩
    try simp only [go_sem]
    have hb6 := hb.trans (hb5.mono hb.size)
    have k10 := (hb5.block a10 (lt_of_heap h10)).trans h10
    have k11 := (hb5.block a11 (lt_of_heap h11)).trans h11
    refine hK.out _ _ ((hb6.block B (lt_of_heap hB)).trans hB) (fun _ => ?_)
    clear hK K
    try simp only [Act.put, List.setIfInBounds_toArray, List.set_cons_zero, List.set_cons_succ]
    exact st_1_01 (u10 := undef) (u11 := undef) (u19 := undef) hB hb6 g10 k10 g11 k11 n10_11 hN
  refine AllReadyH.cons (o := { dst := some 12, op := Go.Op.alloc 67, type := 0, pos := "law.go:33", after := #[], guard := none }) rfl (fun K hK => ?_) AllReadyH.nil
  go_simp
  obtain ⟨w5, hw5⟩ : ∃ w5, w.alloc (.cells #[.int .i64 0, .int .i64 0, .int .i64 0, .int .i64 0, .int .i64 0, .int .i64 0, .int .i64 0, .int .i64 0, .int .i64 0, .int .i64 0, .int .i64 0, .int .i64 0, .bool false, .bool false, .int .i64 0, .int .i64 0, .int .i64 0, .int .i64 0, .int .i64 0] 67) = w5 := ⟨_, rfl⟩
  have hn := heap_alloc_new w (.cells #[.int .i64 0, .int .i64 0, .int .i64 0, .int .i64 0, .int .i64 0, .int .i64 0, .int .i64 0, .int .i64 0, .int .i64 0, .int .i64 0, .int .i64 0, .int .i64 0, .bool false, .bool false, .int .i64 0, .int .i64 0, .int .i64 0, .int .i64 0, .int .i64 0] 67)
  have hb5 : Below w.heap.size w w5 := by rw [← hw5]; go_grown
  rw [hw5] at hn
  rw [hw5]
  have hb6 := hb.trans (hb5.mono hb.size)
  have hg := hb.size
  have k10 := (hb5.block a10 (lt_of_heap h10)).trans h10
  have l10 := lt_of_heap h10
  have k11 := (hb5.block a11 (lt_of_heap h11)).trans h11
  have l11 := lt_of_heap h11
  refine hK.out _ _ ((hb6.block B (lt_of_heap hB)).trans hB) (fun _ => ?_)
  clear hK K
  try simp only [Act.put, List.setIfInBounds_toArray, List.set_cons_zero, List.set_cons_succ]
  exact st_0_012 (u10 := undef) (u11 := undef) (u12 := undef) hB hb6 g10 k10 g11 k11 hg hn n10_11 (show a10 ≠ w.heap.size by omega) (show a11 ≠ w.heap.size by omega) hN
set_option maxRecDepth 20000 in
set_option maxHeartbeats 4000000 in
theorem st_0_02 {x : Fm} {own fn serial : Int} {B : Nat} {wR w : World} {u0 u5 u6 u7 u8 u9 u10 u11 u12 u13 u14 u15 u19 u24 u27 u28 u29 u30 u31 u32 u33 u34 u35 u36 u37 u38 u39 u40 u41 u42 u43 u44 u45 u46 u47 u48 u49 u50 u51 u52 u53 u54 u55 u56 u57 u58 u59 u60 u61 u62 u63 u64 u65 u66 : Value} {Q : Exit → Act → World → Prop} {a10 a12 : Nat} (hB : wR.heap[B]? = some (.cells x.cs 67 (0, 0))) (hb : Below wR.heap.size wR w) (g10 : wR.heap.size ≤ a10) (h10 : w.heap[a10]? = some (.cells #[.int .i64 0, .int .i64 0, .int .i64 0, .int .i64 0, .int .i64 0, .int .i64 0, .int .i64 0, .int .i64 0, .int .i64 0, .int .i64 0, .int .i64 0, .int .i64 0, .bool false, .bool false, .int .i64 0, .int .i64 0, .int .i64 0, .int .i64 0, .int .i64 0] 67 (0, 0))) (g12 : wR.heap.size ≤ a12) (h12 : w.heap[a12]? = some (.cells #[.int .i64 0, .int .i64 0, .int .i64 0, .int .i64 0, .int .i64 0, .int .i64 0, .int .i64 0, .int .i64 0, .int .i64 0, .int .i64 0, .int .i64 0, .int .i64 0, .bool false, .bool false, .int .i64 0, .int .i64 0, .int .i64 0, .int .i64 0, .int .i64 0] 67 (0, 0))) (n10_12 : a10 ≠ a12)
    (hN : ∀ (a10 a11 a12 : Nat) (w' : World), Below wR.heap.size wR w' → w'.heap[a10]? = some (.cells (x.child own fn).cs 67 (0, 0)) → w'.heap[a11]? = some (.cells (x.loop own fn serial).cs 67 (0, 0)) → w'.heap[a12]? = some (.cells (x.iter own).cs 67 (0, 0)) → Q .normal ⟨#[u0, .int .i64 own, .int .i64 fn, .int .i64 serial, .pointer (some ⟨B, 0, none⟩), u5, u6, u7, u8, u9, .pointer (some ⟨a10, 0, none⟩), .pointer (some ⟨a11, 0, none⟩), .pointer (some ⟨a12, 0, none⟩), u13, u14, u15, .agg x.cs, .int .i64 own, .int .i64 fn, .agg (x.child own fn).cs, .agg x.cs, .int .i64 own, .int .i64 fn, .int .i64 serial, .agg (x.loop own fn serial).cs, .agg x.cs, .int .i64 own, .agg (x.iter own).cs, u28, u29, u30, u31, u32, u33, u34, u35, u36, u37, u38, u39, u40, u41, u42, u43, u44, u45, u46, u47, u48, u49, u50, u51, u52, u53, u54, u55, u56, u57, u58, u59, u60, u61, u62, u63, u64, u65, u66], []⟩ w') :
    wpAnyH Try.prog .any ops4 Q (fun w' => w'.heap[B]? = some (.cells x.cs 67 (0, 0))) 7 #[true, true, true, false, true, true, true, true, false, true, true, false, true, false, true, false, false, false] ⟨#[u0, .int .i64 own, .int .i64 fn, .int .i64 serial, .pointer (some ⟨B, 0, none⟩), u5, u6, u7, u8, u9, .pointer (some ⟨a10, 0, none⟩), u11, .pointer (some ⟨a12, 0, none⟩), u13, u14, u15, .agg x.cs, .int .i64 own, .int .i64 fn, u19, .agg x.cs, .int .i64 own, .int .i64 fn, .int .i64 serial, u24, .agg x.cs, .int .i64 own, u27, u28, u29, u30, u31, u32, u33, u34, u35, u36, u37, u38, u39, u40, u41, u42, u43, u44, u45, u46, u47, u48, u49, u50, u51, u52, u53, u54, u55, u56, u57, u58, u59, u60, u61, u62, u63, u64, u65, u66], []⟩ w := by
  refine wpAnyH_ready (rs := [3, 13]) (by kernel_rfl) (by simp) ?_
  refine AllReadyH.cons (o := { dst := some 19, op := Go.Op.call { callee := Go.Callee.value (Go.Operand.func 43), args := #[Go.Operand.tmp 16, Go.Operand.tmp 17, Go.Operand.tmp 18], argTypes := #[67, 3, 3] }, type := 67, pos := "law.go:33", after := #[{ on := 0, ground := Go.Ground.data }, { on := 1, ground := Go.Ground.data }, { on := 2, ground := Go.Ground.data }], guard := none }) rfl (fun K hK => ?_) ?_
  · go_simp
    refine (child_of x own fn _).mono ?_
    rintro e w5 ⟨rfl, hb5⟩
    try simp only [go_sem]
    have hb6 := hb.trans (hb5.mono hb.size)
    have k10 := (hb5.block a10 (lt_of_heap h10)).trans h10
    have k12 := (hb5.block a12 (lt_of_heap h12)).trans h12
    refine hK.out _ _ ((hb6.block B (lt_of_heap hB)).trans hB) (fun _ => ?_)
    clear hK K
    try simp only [Act.put, List.setIfInBounds_toArray, List.set_cons_zero, List.set_cons_succ]
    exact st_1_02 (u10 := undef) (u12 := undef) (u19 := undef) hB hb6 g10 k10 g12 k12 n10_12 hN
  refine AllReadyH.cons (o := { dst := some 11, op := Go.Op.alloc 67, type := 0, pos := "law.go:33", after := #[], guard := none }) rfl (fun K hK => ?_) AllReadyH.nil
  go_simp
  obtain ⟨w5, hw5⟩ : ∃ w5, w.alloc (.cells #[.int .i64 0, .int .i64 0, .int .i64 0, .int .i64 0, .int .i64 0, .int .i64 0, .int .i64 0, .int .i64 0, .int .i64 0, .int .i64 0, .int .i64 0, .int .i64 0, .bool false, .bool false, .int .i64 0, .int .i64 0, .int .i64 0, .int .i64 0, .int .i64 0] 67) = w5 := ⟨_, rfl⟩
  have hn := heap_alloc_new w (.cells #[.int .i64 0, .int .i64 0, .int .i64 0, .int .i64 0, .int .i64 0, .int .i64 0, .int .i64 0, .int .i64 0, .int .i64 0, .int .i64 0, .int .i64 0, .int .i64 0, .bool false, .bool false, .int .i64 0, .int .i64 0, .int .i64 0, .int .i64 0, .int .i64 0] 67)
  have hb5 : Below w.heap.size w w5 := by rw [← hw5]; go_grown
  rw [hw5] at hn
  rw [hw5]
  have hb6 := hb.trans (hb5.mono hb.size)
  have hg := hb.size
  have k10 := (hb5.block a10 (lt_of_heap h10)).trans h10
  have l10 := lt_of_heap h10
  have k12 := (hb5.block a12 (lt_of_heap h12)).trans h12
  have l12 := lt_of_heap h12
  refine hK.out _ _ ((hb6.block B (lt_of_heap hB)).trans hB) (fun _ => ?_)
  clear hK K
  try simp only [Act.put, List.setIfInBounds_toArray, List.set_cons_zero, List.set_cons_succ]
  exact st_0_012 (u10 := undef) (u11 := undef) (u12 := undef) hB hb6 g10 k10 hg hn g12 k12 (show a10 ≠ w.heap.size by omega) n10_12 (show w.heap.size ≠ a12 by omega) hN
set_option maxRecDepth 20000 in
set_option maxHeartbeats 4000000 in
theorem st_0_12 {x : Fm} {own fn serial : Int} {B : Nat} {wR w : World} {u0 u5 u6 u7 u8 u9 u10 u11 u12 u13 u14 u15 u19 u24 u27 u28 u29 u30 u31 u32 u33 u34 u35 u36 u37 u38 u39 u40 u41 u42 u43 u44 u45 u46 u47 u48 u49 u50 u51 u52 u53 u54 u55 u56 u57 u58 u59 u60 u61 u62 u63 u64 u65 u66 : Value} {Q : Exit → Act → World → Prop} {a11 a12 : Nat} (hB : wR.heap[B]? = some (.cells x.cs 67 (0, 0))) (hb : Below wR.heap.size wR w) (g11 : wR.heap.size ≤ a11) (h11 : w.heap[a11]? = some (.cells #[.int .i64 0, .int .i64 0, .int .i64 0, .int .i64 0, .int .i64 0, .int .i64 0, .int .i64 0, .int .i64 0, .int .i64 0, .int .i64 0, .int .i64 0, .int .i64 0, .bool false, .bool false, .int .i64 0, .int .i64 0, .int .i64 0, .int .i64 0, .int .i64 0] 67 (0, 0))) (g12 : wR.heap.size ≤ a12) (h12 : w.heap[a12]? = some (.cells #[.int .i64 0, .int .i64 0, .int .i64 0, .int .i64 0, .int .i64 0, .int .i64 0, .int .i64 0, .int .i64 0, .int .i64 0, .int .i64 0, .int .i64 0, .int .i64 0, .bool false, .bool false, .int .i64 0, .int .i64 0, .int .i64 0, .int .i64 0, .int .i64 0] 67 (0, 0))) (n11_12 : a11 ≠ a12)
    (hN : ∀ (a10 a11 a12 : Nat) (w' : World), Below wR.heap.size wR w' → w'.heap[a10]? = some (.cells (x.child own fn).cs 67 (0, 0)) → w'.heap[a11]? = some (.cells (x.loop own fn serial).cs 67 (0, 0)) → w'.heap[a12]? = some (.cells (x.iter own).cs 67 (0, 0)) → Q .normal ⟨#[u0, .int .i64 own, .int .i64 fn, .int .i64 serial, .pointer (some ⟨B, 0, none⟩), u5, u6, u7, u8, u9, .pointer (some ⟨a10, 0, none⟩), .pointer (some ⟨a11, 0, none⟩), .pointer (some ⟨a12, 0, none⟩), u13, u14, u15, .agg x.cs, .int .i64 own, .int .i64 fn, .agg (x.child own fn).cs, .agg x.cs, .int .i64 own, .int .i64 fn, .int .i64 serial, .agg (x.loop own fn serial).cs, .agg x.cs, .int .i64 own, .agg (x.iter own).cs, u28, u29, u30, u31, u32, u33, u34, u35, u36, u37, u38, u39, u40, u41, u42, u43, u44, u45, u46, u47, u48, u49, u50, u51, u52, u53, u54, u55, u56, u57, u58, u59, u60, u61, u62, u63, u64, u65, u66], []⟩ w') :
    wpAnyH Try.prog .any ops4 Q (fun w' => w'.heap[B]? = some (.cells x.cs 67 (0, 0))) 7 #[true, true, true, false, true, true, true, true, false, true, true, false, false, true, true, false, false, false] ⟨#[u0, .int .i64 own, .int .i64 fn, .int .i64 serial, .pointer (some ⟨B, 0, none⟩), u5, u6, u7, u8, u9, u10, .pointer (some ⟨a11, 0, none⟩), .pointer (some ⟨a12, 0, none⟩), u13, u14, u15, .agg x.cs, .int .i64 own, .int .i64 fn, u19, .agg x.cs, .int .i64 own, .int .i64 fn, .int .i64 serial, u24, .agg x.cs, .int .i64 own, u27, u28, u29, u30, u31, u32, u33, u34, u35, u36, u37, u38, u39, u40, u41, u42, u43, u44, u45, u46, u47, u48, u49, u50, u51, u52, u53, u54, u55, u56, u57, u58, u59, u60, u61, u62, u63, u64, u65, u66], []⟩ w := by
  refine wpAnyH_ready (rs := [3, 12]) (by kernel_rfl) (by simp) ?_
  refine AllReadyH.cons (o := { dst := some 19, op := Go.Op.call { callee := Go.Callee.value (Go.Operand.func 43), args := #[Go.Operand.tmp 16, Go.Operand.tmp 17, Go.Operand.tmp 18], argTypes := #[67, 3, 3] }, type := 67, pos := "law.go:33", after := #[{ on := 0, ground := Go.Ground.data }, { on := 1, ground := Go.Ground.data }, { on := 2, ground := Go.Ground.data }], guard := none }) rfl (fun K hK => ?_) ?_
  · go_simp
    refine (child_of x own fn _).mono ?_
    rintro e w5 ⟨rfl, hb5⟩
    try simp only [go_sem]
    have hb6 := hb.trans (hb5.mono hb.size)
    have k11 := (hb5.block a11 (lt_of_heap h11)).trans h11
    have k12 := (hb5.block a12 (lt_of_heap h12)).trans h12
    refine hK.out _ _ ((hb6.block B (lt_of_heap hB)).trans hB) (fun _ => ?_)
    clear hK K
    try simp only [Act.put, List.setIfInBounds_toArray, List.set_cons_zero, List.set_cons_succ]
    exact st_1_12 (u11 := undef) (u12 := undef) (u19 := undef) hB hb6 g11 k11 g12 k12 n11_12 hN
  refine AllReadyH.cons (o := { dst := some 10, op := Go.Op.alloc 67, type := 0, pos := "law.go:33", after := #[], guard := none }) rfl (fun K hK => ?_) AllReadyH.nil
  go_simp
  obtain ⟨w5, hw5⟩ : ∃ w5, w.alloc (.cells #[.int .i64 0, .int .i64 0, .int .i64 0, .int .i64 0, .int .i64 0, .int .i64 0, .int .i64 0, .int .i64 0, .int .i64 0, .int .i64 0, .int .i64 0, .int .i64 0, .bool false, .bool false, .int .i64 0, .int .i64 0, .int .i64 0, .int .i64 0, .int .i64 0] 67) = w5 := ⟨_, rfl⟩
  have hn := heap_alloc_new w (.cells #[.int .i64 0, .int .i64 0, .int .i64 0, .int .i64 0, .int .i64 0, .int .i64 0, .int .i64 0, .int .i64 0, .int .i64 0, .int .i64 0, .int .i64 0, .int .i64 0, .bool false, .bool false, .int .i64 0, .int .i64 0, .int .i64 0, .int .i64 0, .int .i64 0] 67)
  have hb5 : Below w.heap.size w w5 := by rw [← hw5]; go_grown
  rw [hw5] at hn
  rw [hw5]
  have hb6 := hb.trans (hb5.mono hb.size)
  have hg := hb.size
  have k11 := (hb5.block a11 (lt_of_heap h11)).trans h11
  have l11 := lt_of_heap h11
  have k12 := (hb5.block a12 (lt_of_heap h12)).trans h12
  have l12 := lt_of_heap h12
  refine hK.out _ _ ((hb6.block B (lt_of_heap hB)).trans hB) (fun _ => ?_)
  clear hK K
  try simp only [Act.put, List.setIfInBounds_toArray, List.set_cons_zero, List.set_cons_succ]
  exact st_0_012 (u10 := undef) (u11 := undef) (u12 := undef) hB hb6 hg hn g11 k11 g12 k12 (show w.heap.size ≠ a11 by omega) (show w.heap.size ≠ a12 by omega) n11_12 hN
set_option maxRecDepth 20000 in
set_option maxHeartbeats 4000000 in
theorem st_1_0 {x : Fm} {own fn serial : Int} {B : Nat} {wR w : World} {u0 u5 u6 u7 u8 u9 u10 u11 u12 u13 u14 u15 u19 u24 u27 u28 u29 u30 u31 u32 u33 u34 u35 u36 u37 u38 u39 u40 u41 u42 u43 u44 u45 u46 u47 u48 u49 u50 u51 u52 u53 u54 u55 u56 u57 u58 u59 u60 u61 u62 u63 u64 u65 u66 : Value} {Q : Exit → Act → World → Prop} {a10 : Nat} (hB : wR.heap[B]? = some (.cells x.cs 67 (0, 0))) (hb : Below wR.heap.size wR w) (g10 : wR.heap.size ≤ a10) (h10 : w.heap[a10]? = some (.cells #[.int .i64 0, .int .i64 0, .int .i64 0, .int .i64 0, .int .i64 0, .int .i64 0, .int .i64 0, .int .i64 0, .int .i64 0, .int .i64 0, .int .i64 0, .int .i64 0, .bool false, .bool false, .int .i64 0, .int .i64 0, .int .i64 0, .int .i64 0, .int .i64 0] 67 (0, 0)))
    (hN : ∀ (a10 a11 a12 : Nat) (w' : World), Below wR.heap.size wR w' → w'.heap[a10]? = some (.cells (x.child own fn).cs 67 (0, 0)) → w'.heap[a11]? = some (.cells (x.loop own fn serial).cs 67 (0, 0)) → w'.heap[a12]? = some (.cells (x.iter own).cs 67 (0, 0)) → Q .normal ⟨#[u0, .int .i64 own, .int .i64 fn, .int .i64 serial, .pointer (some ⟨B, 0, none⟩), u5, u6, u7, u8, u9, .pointer (some ⟨a10, 0, none⟩), .pointer (some ⟨a11, 0, none⟩), .pointer (some ⟨a12, 0, none⟩), u13, u14, u15, .agg x.cs, .int .i64 own, .int .i64 fn, .agg (x.child own fn).cs, .agg x.cs, .int .i64 own, .int .i64 fn, .int .i64 serial, .agg (x.loop own fn serial).cs, .agg x.cs, .int .i64 own, .agg (x.iter own).cs, u28, u29, u30, u31, u32, u33, u34, u35, u36, u37, u38, u39, u40, u41, u42, u43, u44, u45, u46, u47, u48, u49, u50, u51, u52, u53, u54, u55, u56, u57, u58, u59, u60, u61, u62, u63, u64, u65, u66], []⟩ w') :
    wpAnyH Try.prog .any ops4 Q (fun w' => w'.heap[B]? = some (.cells x.cs 67 (0, 0))) 7 #[true, true, true, true, true, true, true, true, false, true, true, false, true, false, false, false, false, false] ⟨#[u0, .int .i64 own, .int .i64 fn, .int .i64 serial, .pointer (some ⟨B, 0, none⟩), u5, u6, u7, u8, u9, .pointer (some ⟨a10, 0, none⟩), u11, u12, u13, u14, u15, .agg x.cs, .int .i64 own, .int .i64 fn, .agg (x.child own fn).cs, .agg x.cs, .int .i64 own, .int .i64 fn, .int .i64 serial, u24, .agg x.cs, .int .i64 own, u27, u28, u29, u30, u31, u32, u33, u34, u35, u36, u37, u38, u39, u40, u41, u42, u43, u44, u45, u46, u47, u48, u49, u50, u51, u52, u53, u54, u55, u56, u57, u58, u59, u60, u61, u62, u63, u64, u65, u66], []⟩ w := by
  refine wpAnyH_ready (rs := [8, 13, 14]) (by kernel_rfl) (by simp) ?_
  refine AllReadyH.cons (o := { dst := some 24, op := Go.Op.call { callee := Go.Callee.value (Go.Operand.func 44), args := #[Go.Operand.tmp 20, Go.Operand.tmp 21, Go.Operand.tmp 22, Go.Operand.tmp 23], argTypes := #[67, 3, 3, 3] }, type := 67, pos := "law.go:33", after := #[{ on := 4, ground := Go.Ground.data }, { on := 5, ground := Go.Ground.data }, { on := 6, ground := Go.Ground.data }, { on := 7, ground := Go.Ground.data }, { on := 3, ground := Go.Ground.chain }], guard := none }) rfl (fun K hK => ?_) ?_
  · go_simp
    refine (loop_of x own fn serial _).mono ?_
    rintro e w5 ⟨rfl, hb5⟩
    try simp only [go_sem]
    have hb6 := hb.trans (hb5.mono hb.size)
    have k10 := (hb5.block a10 (lt_of_heap h10)).trans h10
    refine hK.out _ _ ((hb6.block B (lt_of_heap hB)).trans hB) (fun _ => ?_)
    clear hK K
    try simp only [Act.put, List.setIfInBounds_toArray, List.set_cons_zero, List.set_cons_succ]
    exact st_2_0 (u10 := undef) (u19 := undef) (u24 := undef) hB hb6 g10 k10 hN
  refine AllReadyH.cons (o := { dst := some 11, op := Go.Op.alloc 67, type := 0, pos := "law.go:33", after := #[], guard := none }) rfl (fun K hK => ?_) ?_
  · go_simp
    obtain ⟨w5, hw5⟩ : ∃ w5, w.alloc (.cells #[.int .i64 0, .int .i64 0, .int .i64 0, .int .i64 0, .int .i64 0, .int .i64 0, .int .i64 0, .int .i64 0, .int .i64 0, .int .i64 0, .int .i64 0, .int .i64 0, .bool false, .bool false, .int .i64 0, .int .i64 0, .int .i64 0, .int .i64 0, .int .i64 0] 67) = w5 := ⟨_, rfl⟩
    have hn := heap_alloc_new w (.cells #[.int .i64 0, .int .i64 0, .int .i64 0, .int .i64 0, .int .i64 0, .int .i64 0, .int .i64 0, .int .i64 0, .int .i64 0, .int .i64 0, .int .i64 0, .int .i64 0, .bool false, .bool false, .int .i64 0, .int .i64 0, .int .i64 0, .int .i64 0, .int .i64 0] 67)
    have hb5 : Below w.heap.size w w5 := by rw [← hw5]; go_grown
    rw [hw5] at hn
    rw [hw5]
    have hb6 := hb.trans (hb5.mono hb.size)
    have hg := hb.size
    have k10 := (hb5.block a10 (lt_of_heap h10)).trans h10
    have l10 := lt_of_heap h10
    refine hK.out _ _ ((hb6.block B (lt_of_heap hB)).trans hB) (fun _ => ?_)
    clear hK K
    try simp only [Act.put, List.setIfInBounds_toArray, List.set_cons_zero, List.set_cons_succ]
    exact st_1_01 (u10 := undef) (u11 := undef) (u19 := undef) hB hb6 g10 k10 hg hn (show a10 ≠ w.heap.size by omega) hN
  refine AllReadyH.cons (o := { dst := some 12, op := Go.Op.alloc 67, type := 0, pos := "law.go:33", after := #[], guard := none }) rfl (fun K hK => ?_) AllReadyH.nil
  go_simp
  obtain ⟨w5, hw5⟩ : ∃ w5, w.alloc (.cells #[.int .i64 0, .int .i64 0, .int .i64 0, .int .i64 0, .int .i64 0, .int .i64 0, .int .i64 0, .int .i64 0, .int .i64 0, .int .i64 0, .int .i64 0, .int .i64 0, .bool false, .bool false, .int .i64 0, .int .i64 0, .int .i64 0, .int .i64 0, .int .i64 0] 67) = w5 := ⟨_, rfl⟩
  have hn := heap_alloc_new w (.cells #[.int .i64 0, .int .i64 0, .int .i64 0, .int .i64 0, .int .i64 0, .int .i64 0, .int .i64 0, .int .i64 0, .int .i64 0, .int .i64 0, .int .i64 0, .int .i64 0, .bool false, .bool false, .int .i64 0, .int .i64 0, .int .i64 0, .int .i64 0, .int .i64 0] 67)
  have hb5 : Below w.heap.size w w5 := by rw [← hw5]; go_grown
  rw [hw5] at hn
  rw [hw5]
  have hb6 := hb.trans (hb5.mono hb.size)
  have hg := hb.size
  have k10 := (hb5.block a10 (lt_of_heap h10)).trans h10
  have l10 := lt_of_heap h10
  refine hK.out _ _ ((hb6.block B (lt_of_heap hB)).trans hB) (fun _ => ?_)
  clear hK K
  try simp only [Act.put, List.setIfInBounds_toArray, List.set_cons_zero, List.set_cons_succ]
  exact st_1_02 (u10 := undef) (u12 := undef) (u19 := undef) hB hb6 g10 k10 hg hn (show a10 ≠ w.heap.size by omega) hN
set_option maxRecDepth 20000 in
set_option maxHeartbeats 4000000 in
theorem st_1_1 {x : Fm} {own fn serial : Int} {B : Nat} {wR w : World} {u0 u5 u6 u7 u8 u9 u10 u11 u12 u13 u14 u15 u19 u24 u27 u28 u29 u30 u31 u32 u33 u34 u35 u36 u37 u38 u39 u40 u41 u42 u43 u44 u45 u46 u47 u48 u49 u50 u51 u52 u53 u54 u55 u56 u57 u58 u59 u60 u61 u62 u63 u64 u65 u66 : Value} {Q : Exit → Act → World → Prop} {a11 : Nat} (hB : wR.heap[B]? = some (.cells x.cs 67 (0, 0))) (hb : Below wR.heap.size wR w) (g11 : wR.heap.size ≤ a11) (h11 : w.heap[a11]? = some (.cells #[.int .i64 0, .int .i64 0, .int .i64 0, .int .i64 0, .int .i64 0, .int .i64 0, .int .i64 0, .int .i64 0, .int .i64 0, .int .i64 0, .int .i64 0, .int .i64 0, .bool false, .bool false, .int .i64 0, .int .i64 0, .int .i64 0, .int .i64 0, .int .i64 0] 67 (0, 0)))
    (hN : ∀ (a10 a11 a12 : Nat) (w' : World), Below wR.heap.size wR w' → w'.heap[a10]? = some (.cells (x.child own fn).cs 67 (0, 0)) → w'.heap[a11]? = some (.cells (x.loop own fn serial).cs 67 (0, 0)) → w'.heap[a12]? = some (.cells (x.iter own).cs 67 (0, 0)) → Q .normal ⟨#[u0, .int .i64 own, .int .i64 fn, .int .i64 serial, .pointer (some ⟨B, 0, none⟩), u5, u6, u7, u8, u9, .pointer (some ⟨a10, 0, none⟩), .pointer (some ⟨a11, 0, none⟩), .pointer (some ⟨a12, 0, none⟩), u13, u14, u15, .agg x.cs, .int .i64 own, .int .i64 fn, .agg (x.child own fn).cs, .agg x.cs, .int .i64 own, .int .i64 fn, .int .i64 serial, .agg (x.loop own fn serial).cs, .agg x.cs, .int .i64 own, .agg (x.iter own).cs, u28, u29, u30, u31, u32, u33, u34, u35, u36, u37, u38, u39, u40, u41, u42, u43, u44, u45, u46, u47, u48, u49, u50, u51, u52, u53, u54, u55, u56, u57, u58, u59, u60, u61, u62, u63, u64, u65, u66], []⟩ w') :
    wpAnyH Try.prog .any ops4 Q (fun w' => w'.heap[B]? = some (.cells x.cs 67 (0, 0))) 7 #[true, true, true, true, true, true, true, true, false, true, true, false, false, true, false, false, false, false] ⟨#[u0, .int .i64 own, .int .i64 fn, .int .i64 serial, .pointer (some ⟨B, 0, none⟩), u5, u6, u7, u8, u9, u10, .pointer (some ⟨a11, 0, none⟩), u12, u13, u14, u15, .agg x.cs, .int .i64 own, .int .i64 fn, .agg (x.child own fn).cs, .agg x.cs, .int .i64 own, .int .i64 fn, .int .i64 serial, u24, .agg x.cs, .int .i64 own, u27, u28, u29, u30, u31, u32, u33, u34, u35, u36, u37, u38, u39, u40, u41, u42, u43, u44, u45, u46, u47, u48, u49, u50, u51, u52, u53, u54, u55, u56, u57, u58, u59, u60, u61, u62, u63, u64, u65, u66], []⟩ w := by
  refine wpAnyH_ready (rs := [8, 12, 14]) (by kernel_rfl) (by simp) ?_
  refine AllReadyH.cons (o := { dst := some 24, op := Go.Op.call { callee := Go.Callee.value (Go.Operand.func 44), args := #[Go.Operand.tmp 20, Go.Operand.tmp 21, Go.Operand.tmp 22, Go.Operand.tmp 23], argTypes := #[67, 3, 3, 3] }, type := 67, pos := "law.go:33", after := #[{ on := 4, ground := Go.Ground.data }, { on := 5, ground := Go.Ground.data }, { on := 6, ground := Go.Ground.data }, { on := 7, ground := Go.Ground.data }, { on := 3, ground := Go.Ground.chain }], guard := none }) rfl (fun K hK => ?_) ?_
  · go_simp
    refine (loop_of x own fn serial _).mono ?_
    rintro e w5 ⟨rfl, hb5⟩
    try simp only [go_sem]
    have hb6 := hb.trans (hb5.mono hb.size)
    have k11 := (hb5.block a11 (lt_of_heap h11)).trans h11
    refine hK.out _ _ ((hb6.block B (lt_of_heap hB)).trans hB) (fun _ => ?_)
    clear hK K
    try simp only [Act.put, List.setIfInBounds_toArray, List.set_cons_zero, List.set_cons_succ]
    exact st_2_1 (u11 := undef) (u19 := undef) (u24 := undef) hB hb6 g11 k11 hN
  refine AllReadyH.cons (o := { dst := some 10, op := Go.Op.alloc 67, type := 0, pos := "law.go:33", after := #[], guard := none }) rfl (fun K hK => ?_) ?_
  · go_simp
    obtain ⟨w5, hw5⟩ : ∃ w5, w.alloc (.cells #[.int .i64 0, .int .i64 0, .int .i64 0, .int .i64 0, .int .i64 0, .int .i64 0, .int .i64 0, .int .i64 0, .int .i64 0, .int .i64 0, .int .i64 0, .int .i64 0, .bool false, .bool false, .int .i64 0, .int .i64 0, .int .i64 0, .int .i64 0, .int .i64 0] 67) = w5 := ⟨_, rfl⟩
    have hn := heap_alloc_new w (.cells #[.int .i64 0, .int .i64 0, .int .i64 0, .int .i64 0, .int .i64 0, .int .i64 0, .int .i64 0, .int .i64 0, .int .i64 0, .int .i64 0, .int .i64 0, .int .i64 0, .bool false, .bool false, .int .i64 0, .int .i64 0, .int .i64 0, .int .i64 0, .int .i64 0] 67)
    have hb5 : Below w.heap.size w w5 := by rw [← hw5]; go_grown
    rw [hw5] at hn
    rw [hw5]
    have hb6 := hb.trans (hb5.mono hb.size)
    have hg := hb.size
    have k11 := (hb5.block a11 (lt_of_heap h11)).trans h11
    have l11 := lt_of_heap h11
    refine hK.out _ _ ((hb6.block B (lt_of_heap hB)).trans hB) (fun _ => ?_)
    clear hK K
    try simp only [Act.put, List.setIfInBounds_toArray, List.set_cons_zero, List.set_cons_succ]
    exact st_1_01 (u10 := undef) (u11 := undef) (u19 := undef) hB hb6 hg hn g11 k11 (show w.heap.size ≠ a11 by omega) hN
  refine AllReadyH.cons (o := { dst := some 12, op := Go.Op.alloc 67, type := 0, pos := "law.go:33", after := #[], guard := none }) rfl (fun K hK => ?_) AllReadyH.nil
  go_simp
  obtain ⟨w5, hw5⟩ : ∃ w5, w.alloc (.cells #[.int .i64 0, .int .i64 0, .int .i64 0, .int .i64 0, .int .i64 0, .int .i64 0, .int .i64 0, .int .i64 0, .int .i64 0, .int .i64 0, .int .i64 0, .int .i64 0, .bool false, .bool false, .int .i64 0, .int .i64 0, .int .i64 0, .int .i64 0, .int .i64 0] 67) = w5 := ⟨_, rfl⟩
  have hn := heap_alloc_new w (.cells #[.int .i64 0, .int .i64 0, .int .i64 0, .int .i64 0, .int .i64 0, .int .i64 0, .int .i64 0, .int .i64 0, .int .i64 0, .int .i64 0, .int .i64 0, .int .i64 0, .bool false, .bool false, .int .i64 0, .int .i64 0, .int .i64 0, .int .i64 0, .int .i64 0] 67)
  have hb5 : Below w.heap.size w w5 := by rw [← hw5]; go_grown
  rw [hw5] at hn
  rw [hw5]
  have hb6 := hb.trans (hb5.mono hb.size)
  have hg := hb.size
  have k11 := (hb5.block a11 (lt_of_heap h11)).trans h11
  have l11 := lt_of_heap h11
  refine hK.out _ _ ((hb6.block B (lt_of_heap hB)).trans hB) (fun _ => ?_)
  clear hK K
  try simp only [Act.put, List.setIfInBounds_toArray, List.set_cons_zero, List.set_cons_succ]
  exact st_1_12 (u11 := undef) (u12 := undef) (u19 := undef) hB hb6 g11 k11 hg hn (show a11 ≠ w.heap.size by omega) hN
set_option maxRecDepth 20000 in
set_option maxHeartbeats 4000000 in
theorem st_1_2 {x : Fm} {own fn serial : Int} {B : Nat} {wR w : World} {u0 u5 u6 u7 u8 u9 u10 u11 u12 u13 u14 u15 u19 u24 u27 u28 u29 u30 u31 u32 u33 u34 u35 u36 u37 u38 u39 u40 u41 u42 u43 u44 u45 u46 u47 u48 u49 u50 u51 u52 u53 u54 u55 u56 u57 u58 u59 u60 u61 u62 u63 u64 u65 u66 : Value} {Q : Exit → Act → World → Prop} {a12 : Nat} (hB : wR.heap[B]? = some (.cells x.cs 67 (0, 0))) (hb : Below wR.heap.size wR w) (g12 : wR.heap.size ≤ a12) (h12 : w.heap[a12]? = some (.cells #[.int .i64 0, .int .i64 0, .int .i64 0, .int .i64 0, .int .i64 0, .int .i64 0, .int .i64 0, .int .i64 0, .int .i64 0, .int .i64 0, .int .i64 0, .int .i64 0, .bool false, .bool false, .int .i64 0, .int .i64 0, .int .i64 0, .int .i64 0, .int .i64 0] 67 (0, 0)))
    (hN : ∀ (a10 a11 a12 : Nat) (w' : World), Below wR.heap.size wR w' → w'.heap[a10]? = some (.cells (x.child own fn).cs 67 (0, 0)) → w'.heap[a11]? = some (.cells (x.loop own fn serial).cs 67 (0, 0)) → w'.heap[a12]? = some (.cells (x.iter own).cs 67 (0, 0)) → Q .normal ⟨#[u0, .int .i64 own, .int .i64 fn, .int .i64 serial, .pointer (some ⟨B, 0, none⟩), u5, u6, u7, u8, u9, .pointer (some ⟨a10, 0, none⟩), .pointer (some ⟨a11, 0, none⟩), .pointer (some ⟨a12, 0, none⟩), u13, u14, u15, .agg x.cs, .int .i64 own, .int .i64 fn, .agg (x.child own fn).cs, .agg x.cs, .int .i64 own, .int .i64 fn, .int .i64 serial, .agg (x.loop own fn serial).cs, .agg x.cs, .int .i64 own, .agg (x.iter own).cs, u28, u29, u30, u31, u32, u33, u34, u35, u36, u37, u38, u39, u40, u41, u42, u43, u44, u45, u46, u47, u48, u49, u50, u51, u52, u53, u54, u55, u56, u57, u58, u59, u60, u61, u62, u63, u64, u65, u66], []⟩ w') :
    wpAnyH Try.prog .any ops4 Q (fun w' => w'.heap[B]? = some (.cells x.cs 67 (0, 0))) 7 #[true, true, true, true, true, true, true, true, false, true, true, false, false, false, true, false, false, false] ⟨#[u0, .int .i64 own, .int .i64 fn, .int .i64 serial, .pointer (some ⟨B, 0, none⟩), u5, u6, u7, u8, u9, u10, u11, .pointer (some ⟨a12, 0, none⟩), u13, u14, u15, .agg x.cs, .int .i64 own, .int .i64 fn, .agg (x.child own fn).cs, .agg x.cs, .int .i64 own, .int .i64 fn, .int .i64 serial, u24, .agg x.cs, .int .i64 own, u27, u28, u29, u30, u31, u32, u33, u34, u35, u36, u37, u38, u39, u40, u41, u42, u43, u44, u45, u46, u47, u48, u49, u50, u51, u52, u53, u54, u55, u56, u57, u58, u59, u60, u61, u62, u63, u64, u65, u66], []⟩ w := by
  refine wpAnyH_ready (rs := [8, 12, 13]) (by kernel_rfl) (by simp) ?_
  refine AllReadyH.cons (o := { dst := some 24, op := Go.Op.call { callee := Go.Callee.value (Go.Operand.func 44), args := #[Go.Operand.tmp 20, Go.Operand.tmp 21, Go.Operand.tmp 22, Go.Operand.tmp 23], argTypes := #[67, 3, 3, 3] }, type := 67, pos := "law.go:33", after := #[{ on := 4, ground := Go.Ground.data }, { on := 5, ground := Go.Ground.data }, { on := 6, ground := Go.Ground.data }, { on := 7, ground := Go.Ground.data }, { on := 3, ground := Go.Ground.chain }], guard := none }) rfl (fun K hK => ?_) ?_
  · go_simp
    refine (loop_of x own fn serial _).mono ?_
    rintro e w5 ⟨rfl, hb5⟩
    try simp only [go_sem]
    have hb6 := hb.trans (hb5.mono hb.size)
    have k12 := (hb5.block a12 (lt_of_heap h12)).trans h12
    refine hK.out _ _ ((hb6.block B (lt_of_heap hB)).trans hB) (fun _ => ?_)
    clear hK K
    try simp only [Act.put, List.setIfInBounds_toArray, List.set_cons_zero, List.set_cons_succ]
    exact st_2_2 (u12 := undef) (u19 := undef) (u24 := undef) hB hb6 g12 k12 hN
  refine AllReadyH.cons (o := { dst := some 10, op := Go.Op.alloc 67, type := 0, pos := "law.go:33", after := #[], guard := none }) rfl (fun K hK => ?_) ?_
  · go_simp
    obtain ⟨w5, hw5⟩ : ∃ w5, w.alloc (.cells #[.int .i64 0, .int .i64 0, .int .i64 0, .int .i64 0, .int .i64 0, .int .i64 0, .int .i64 0, .int .i64 0, .int .i64 0, .int .i64 0, .int .i64 0, .int .i64 0, .bool false, .bool false, .int .i64 0, .int .i64 0, .int .i64 0, .int .i64 0, .int .i64 0] 67) = w5 := ⟨_, rfl⟩
    have hn := heap_alloc_new w (.cells #[.int .i64 0, .int .i64 0, .int .i64 0, .int .i64 0, .int .i64 0, .int .i64 0, .int .i64 0, .int .i64 0, .int .i64 0, .int .i64 0, .int .i64 0, .int .i64 0, .bool false, .bool false, .int .i64 0, .int .i64 0, .int .i64 0, .int .i64 0, .int .i64 0] 67)
    have hb5 : Below w.heap.size w w5 := by rw [← hw5]; go_grown
    rw [hw5] at hn
    rw [hw5]
    have hb6 := hb.trans (hb5.mono hb.size)
    have hg := hb.size
    have k12 := (hb5.block a12 (lt_of_heap h12)).trans h12
    have l12 := lt_of_heap h12
    refine hK.out _ _ ((hb6.block B (lt_of_heap hB)).trans hB) (fun _ => ?_)
    clear hK K
    try simp only [Act.put, List.setIfInBounds_toArray, List.set_cons_zero, List.set_cons_succ]
    exact st_1_02 (u10 := undef) (u12 := undef) (u19 := undef) hB hb6 hg hn g12 k12 (show w.heap.size ≠ a12 by omega) hN
  refine AllReadyH.cons (o := { dst := some 11, op := Go.Op.alloc 67, type := 0, pos := "law.go:33", after := #[], guard := none }) rfl (fun K hK => ?_) AllReadyH.nil
  go_simp
  obtain ⟨w5, hw5⟩ : ∃ w5, w.alloc (.cells #[.int .i64 0, .int .i64 0, .int .i64 0, .int .i64 0, .int .i64 0, .int .i64 0, .int .i64 0, .int .i64 0, .int .i64 0, .int .i64 0, .int .i64 0, .int .i64 0, .bool false, .bool false, .int .i64 0, .int .i64 0, .int .i64 0, .int .i64 0, .int .i64 0] 67) = w5 := ⟨_, rfl⟩
  have hn := heap_alloc_new w (.cells #[.int .i64 0, .int .i64 0, .int .i64 0, .int .i64 0, .int .i64 0, .int .i64 0, .int .i64 0, .int .i64 0, .int .i64 0, .int .i64 0, .int .i64 0, .int .i64 0, .bool false, .bool false, .int .i64 0, .int .i64 0, .int .i64 0, .int .i64 0, .int .i64 0] 67)
  have hb5 : Below w.heap.size w w5 := by rw [← hw5]; go_grown
  rw [hw5] at hn
  rw [hw5]
  have hb6 := hb.trans (hb5.mono hb.size)
  have hg := hb.size
  have k12 := (hb5.block a12 (lt_of_heap h12)).trans h12
  have l12 := lt_of_heap h12
  refine hK.out _ _ ((hb6.block B (lt_of_heap hB)).trans hB) (fun _ => ?_)
  clear hK K
  try simp only [Act.put, List.setIfInBounds_toArray, List.set_cons_zero, List.set_cons_succ]
  exact st_1_12 (u11 := undef) (u12 := undef) (u19 := undef) hB hb6 hg hn g12 k12 (show w.heap.size ≠ a12 by omega) hN
set_option maxRecDepth 20000 in
set_option maxHeartbeats 4000000 in
theorem st_2_n {x : Fm} {own fn serial : Int} {B : Nat} {wR w : World} {u0 u5 u6 u7 u8 u9 u10 u11 u12 u13 u14 u15 u19 u24 u27 u28 u29 u30 u31 u32 u33 u34 u35 u36 u37 u38 u39 u40 u41 u42 u43 u44 u45 u46 u47 u48 u49 u50 u51 u52 u53 u54 u55 u56 u57 u58 u59 u60 u61 u62 u63 u64 u65 u66 : Value} {Q : Exit → Act → World → Prop} (hB : wR.heap[B]? = some (.cells x.cs 67 (0, 0))) (hb : Below wR.heap.size wR w)
    (hN : ∀ (a10 a11 a12 : Nat) (w' : World), Below wR.heap.size wR w' → w'.heap[a10]? = some (.cells (x.child own fn).cs 67 (0, 0)) → w'.heap[a11]? = some (.cells (x.loop own fn serial).cs 67 (0, 0)) → w'.heap[a12]? = some (.cells (x.iter own).cs 67 (0, 0)) → Q .normal ⟨#[u0, .int .i64 own, .int .i64 fn, .int .i64 serial, .pointer (some ⟨B, 0, none⟩), u5, u6, u7, u8, u9, .pointer (some ⟨a10, 0, none⟩), .pointer (some ⟨a11, 0, none⟩), .pointer (some ⟨a12, 0, none⟩), u13, u14, u15, .agg x.cs, .int .i64 own, .int .i64 fn, .agg (x.child own fn).cs, .agg x.cs, .int .i64 own, .int .i64 fn, .int .i64 serial, .agg (x.loop own fn serial).cs, .agg x.cs, .int .i64 own, .agg (x.iter own).cs, u28, u29, u30, u31, u32, u33, u34, u35, u36, u37, u38, u39, u40, u41, u42, u43, u44, u45, u46, u47, u48, u49, u50, u51, u52, u53, u54, u55, u56, u57, u58, u59, u60, u61, u62, u63, u64, u65, u66], []⟩ w') :
    wpAnyH Try.prog .any ops4 Q (fun w' => w'.heap[B]? = some (.cells x.cs 67 (0, 0))) 7 #[true, true, true, true, true, true, true, true, true, true, true, false, false, false, false, false, false, false] ⟨#[u0, .int .i64 own, .int .i64 fn, .int .i64 serial, .pointer (some ⟨B, 0, none⟩), u5, u6, u7, u8, u9, u10, u11, u12, u13, u14, u15, .agg x.cs, .int .i64 own, .int .i64 fn, .agg (x.child own fn).cs, .agg x.cs, .int .i64 own, .int .i64 fn, .int .i64 serial, .agg (x.loop own fn serial).cs, .agg x.cs, .int .i64 own, u27, u28, u29, u30, u31, u32, u33, u34, u35, u36, u37, u38, u39, u40, u41, u42, u43, u44, u45, u46, u47, u48, u49, u50, u51, u52, u53, u54, u55, u56, u57, u58, u59, u60, u61, u62, u63, u64, u65, u66], []⟩ w := by
  refine wpAnyH_ready (rs := [11, 12, 13, 14]) (by kernel_rfl) (by simp) ?_
  refine AllReadyH.cons (o := { dst := some 27, op := Go.Op.call { callee := Go.Callee.value (Go.Operand.func 45), args := #[Go.Operand.tmp 25, Go.Operand.tmp 26], argTypes := #[67, 3] }, type := 67, pos := "law.go:33", after := #[{ on := 9, ground := Go.Ground.data }, { on := 10, ground := Go.Ground.data }, { on := 8, ground := Go.Ground.chain }], guard := none }) rfl (fun K hK => ?_) ?_
  · go_simp
    refine (iter_of x own _).mono ?_
    rintro e w5 ⟨rfl, hb5⟩
    try simp only [go_sem]
    have hb6 := hb.trans (hb5.mono hb.size)
    refine hK.out _ _ ((hb6.block B (lt_of_heap hB)).trans hB) (fun _ => ?_)
    clear hK K
    try simp only [Act.put, List.setIfInBounds_toArray, List.set_cons_zero, List.set_cons_succ]
    exact st_3_n (u19 := undef) (u24 := undef) (u27 := undef) hB hb6 hN
  refine AllReadyH.cons (o := { dst := some 10, op := Go.Op.alloc 67, type := 0, pos := "law.go:33", after := #[], guard := none }) rfl (fun K hK => ?_) ?_
  · go_simp
    obtain ⟨w5, hw5⟩ : ∃ w5, w.alloc (.cells #[.int .i64 0, .int .i64 0, .int .i64 0, .int .i64 0, .int .i64 0, .int .i64 0, .int .i64 0, .int .i64 0, .int .i64 0, .int .i64 0, .int .i64 0, .int .i64 0, .bool false, .bool false, .int .i64 0, .int .i64 0, .int .i64 0, .int .i64 0, .int .i64 0] 67) = w5 := ⟨_, rfl⟩
    have hn := heap_alloc_new w (.cells #[.int .i64 0, .int .i64 0, .int .i64 0, .int .i64 0, .int .i64 0, .int .i64 0, .int .i64 0, .int .i64 0, .int .i64 0, .int .i64 0, .int .i64 0, .int .i64 0, .bool false, .bool false, .int .i64 0, .int .i64 0, .int .i64 0, .int .i64 0, .int .i64 0] 67)
    have hb5 : Below w.heap.size w w5 := by rw [← hw5]; go_grown
    rw [hw5] at hn
    rw [hw5]
    have hb6 := hb.trans (hb5.mono hb.size)
    have hg := hb.size
    refine hK.out _ _ ((hb6.block B (lt_of_heap hB)).trans hB) (fun _ => ?_)
    clear hK K
    try simp only [Act.put, List.setIfInBounds_toArray, List.set_cons_zero, List.set_cons_succ]
    exact st_2_0 (u10 := undef) (u19 := undef) (u24 := undef) hB hb6 hg hn hN
  refine AllReadyH.cons (o := { dst := some 11, op := Go.Op.alloc 67, type := 0, pos := "law.go:33", after := #[], guard := none }) rfl (fun K hK => ?_) ?_
  · go_simp
    obtain ⟨w5, hw5⟩ : ∃ w5, w.alloc (.cells #[.int .i64 0, .int .i64 0, .int .i64 0, .int .i64 0, .int .i64 0, .int .i64 0, .int .i64 0, .int .i64 0, .int .i64 0, .int .i64 0, .int .i64 0, .int .i64 0, .bool false, .bool false, .int .i64 0, .int .i64 0, .int .i64 0, .int .i64 0, .int .i64 0] 67) = w5 := ⟨_, rfl⟩
    have hn := heap_alloc_new w (.cells #[.int .i64 0, .int .i64 0, .int .i64 0, .int .i64 0, .int .i64 0, .int .i64 0, .int .i64 0, .int .i64 0, .int .i64 0, .int .i64 0, .int .i64 0, .int .i64 0, .bool false, .bool false, .int .i64 0, .int .i64 0, .int .i64 0, .int .i64 0, .int .i64 0] 67)
    have hb5 : Below w.heap.size w w5 := by rw [← hw5]; go_grown
    rw [hw5] at hn
    rw [hw5]
    have hb6 := hb.trans (hb5.mono hb.size)
    have hg := hb.size
    refine hK.out _ _ ((hb6.block B (lt_of_heap hB)).trans hB) (fun _ => ?_)
    clear hK K
    try simp only [Act.put, List.setIfInBounds_toArray, List.set_cons_zero, List.set_cons_succ]
    exact st_2_1 (u11 := undef) (u19 := undef) (u24 := undef) hB hb6 hg hn hN
  refine AllReadyH.cons (o := { dst := some 12, op := Go.Op.alloc 67, type := 0, pos := "law.go:33", after := #[], guard := none }) rfl (fun K hK => ?_) AllReadyH.nil
  go_simp
  obtain ⟨w5, hw5⟩ : ∃ w5, w.alloc (.cells #[.int .i64 0, .int .i64 0, .int .i64 0, .int .i64 0, .int .i64 0, .int .i64 0, .int .i64 0, .int .i64 0, .int .i64 0, .int .i64 0, .int .i64 0, .int .i64 0, .bool false, .bool false, .int .i64 0, .int .i64 0, .int .i64 0, .int .i64 0, .int .i64 0] 67) = w5 := ⟨_, rfl⟩
  have hn := heap_alloc_new w (.cells #[.int .i64 0, .int .i64 0, .int .i64 0, .int .i64 0, .int .i64 0, .int .i64 0, .int .i64 0, .int .i64 0, .int .i64 0, .int .i64 0, .int .i64 0, .int .i64 0, .bool false, .bool false, .int .i64 0, .int .i64 0, .int .i64 0, .int .i64 0, .int .i64 0] 67)
  have hb5 : Below w.heap.size w w5 := by rw [← hw5]; go_grown
  rw [hw5] at hn
  rw [hw5]
  have hb6 := hb.trans (hb5.mono hb.size)
  have hg := hb.size
  refine hK.out _ _ ((hb6.block B (lt_of_heap hB)).trans hB) (fun _ => ?_)
  clear hK K
  try simp only [Act.put, List.setIfInBounds_toArray, List.set_cons_zero, List.set_cons_succ]
  exact st_2_2 (u12 := undef) (u19 := undef) (u24 := undef) hB hb6 hg hn hN
set_option maxRecDepth 20000 in
set_option maxHeartbeats 4000000 in
theorem st_0_0 {x : Fm} {own fn serial : Int} {B : Nat} {wR w : World} {u0 u5 u6 u7 u8 u9 u10 u11 u12 u13 u14 u15 u19 u24 u27 u28 u29 u30 u31 u32 u33 u34 u35 u36 u37 u38 u39 u40 u41 u42 u43 u44 u45 u46 u47 u48 u49 u50 u51 u52 u53 u54 u55 u56 u57 u58 u59 u60 u61 u62 u63 u64 u65 u66 : Value} {Q : Exit → Act → World → Prop} {a10 : Nat} (hB : wR.heap[B]? = some (.cells x.cs 67 (0, 0))) (hb : Below wR.heap.size wR w) (g10 : wR.heap.size ≤ a10) (h10 : w.heap[a10]? = some (.cells #[.int .i64 0, .int .i64 0, .int .i64 0, .int .i64 0, .int .i64 0, .int .i64 0, .int .i64 0, .int .i64 0, .int .i64 0, .int .i64 0, .int .i64 0, .int .i64 0, .bool false, .bool false, .int .i64 0, .int .i64 0, .int .i64 0, .int .i64 0, .int .i64 0] 67 (0, 0)))
    (hN : ∀ (a10 a11 a12 : Nat) (w' : World), Below wR.heap.size wR w' → w'.heap[a10]? = some (.cells (x.child own fn).cs 67 (0, 0)) → w'.heap[a11]? = some (.cells (x.loop own fn serial).cs 67 (0, 0)) → w'.heap[a12]? = some (.cells (x.iter own).cs 67 (0, 0)) → Q .normal ⟨#[u0, .int .i64 own, .int .i64 fn, .int .i64 serial, .pointer (some ⟨B, 0, none⟩), u5, u6, u7, u8, u9, .pointer (some ⟨a10, 0, none⟩), .pointer (some ⟨a11, 0, none⟩), .pointer (some ⟨a12, 0, none⟩), u13, u14, u15, .agg x.cs, .int .i64 own, .int .i64 fn, .agg (x.child own fn).cs, .agg x.cs, .int .i64 own, .int .i64 fn, .int .i64 serial, .agg (x.loop own fn serial).cs, .agg x.cs, .int .i64 own, .agg (x.iter own).cs, u28, u29, u30, u31, u32, u33, u34, u35, u36, u37, u38, u39, u40, u41, u42, u43, u44, u45, u46, u47, u48, u49, u50, u51, u52, u53, u54, u55, u56, u57, u58, u59, u60, u61, u62, u63, u64, u65, u66], []⟩ w') :
    wpAnyH Try.prog .any ops4 Q (fun w' => w'.heap[B]? = some (.cells x.cs 67 (0, 0))) 8 #[true, true, true, false, true, true, true, true, false, true, true, false, true, false, false, false, false, false] ⟨#[u0, .int .i64 own, .int .i64 fn, .int .i64 serial, .pointer (some ⟨B, 0, none⟩), u5, u6, u7, u8, u9, .pointer (some ⟨a10, 0, none⟩), u11, u12, u13, u14, u15, .agg x.cs, .int .i64 own, .int .i64 fn, u19, .agg x.cs, .int .i64 own, .int .i64 fn, .int .i64 serial, u24, .agg x.cs, .int .i64 own, u27, u28, u29, u30, u31, u32, u33, u34, u35, u36, u37, u38, u39, u40, u41, u42, u43, u44, u45, u46, u47, u48, u49, u50, u51, u52, u53, u54, u55, u56, u57, u58, u59, u60, u61, u62, u63, u64, u65, u66], []⟩ w := by
  refine wpAnyH_ready (rs := [3, 13, 14]) (by kernel_rfl) (by simp) ?_
  refine AllReadyH.cons (o := { dst := some 19, op := Go.Op.call { callee := Go.Callee.value (Go.Operand.func 43), args := #[Go.Operand.tmp 16, Go.Operand.tmp 17, Go.Operand.tmp 18], argTypes := #[67, 3, 3] }, type := 67, pos := "law.go:33", after := #[{ on := 0, ground := Go.Ground.data }, { on := 1, ground := Go.Ground.data }, { on := 2, ground := Go.Ground.data }], guard := none }) rfl (fun K hK => ?_) ?_
  · go_simp
    refine (child_of x own fn _).mono ?_
    rintro e w5 ⟨rfl, hb5⟩
    try simp only [go_sem]
    have hb6 := hb.trans (hb5.mono hb.size)
    have k10 := (hb5.block a10 (lt_of_heap h10)).trans h10
    refine hK.out _ _ ((hb6.block B (lt_of_heap hB)).trans hB) (fun _ => ?_)
    clear hK K
    try simp only [Act.put, List.setIfInBounds_toArray, List.set_cons_zero, List.set_cons_succ]
    exact st_1_0 (u10 := undef) (u19 := undef) hB hb6 g10 k10 hN
  refine AllReadyH.cons (o := { dst := some 11, op := Go.Op.alloc 67, type := 0, pos := "law.go:33", after := #[], guard := none }) rfl (fun K hK => ?_) ?_
  · go_simp
    obtain ⟨w5, hw5⟩ : ∃ w5, w.alloc (.cells #[.int .i64 0, .int .i64 0, .int .i64 0, .int .i64 0, .int .i64 0, .int .i64 0, .int .i64 0, .int .i64 0, .int .i64 0, .int .i64 0, .int .i64 0, .int .i64 0, .bool false, .bool false, .int .i64 0, .int .i64 0, .int .i64 0, .int .i64 0, .int .i64 0] 67) = w5 := ⟨_, rfl⟩
    have hn := heap_alloc_new w (.cells #[.int .i64 0, .int .i64 0, .int .i64 0, .int .i64 0, .int .i64 0, .int .i64 0, .int .i64 0, .int .i64 0, .int .i64 0, .int .i64 0, .int .i64 0, .int .i64 0, .bool false, .bool false, .int .i64 0, .int .i64 0, .int .i64 0, .int .i64 0, .int .i64 0] 67)
    have hb5 : Below w.heap.size w w5 := by rw [← hw5]; go_grown
    rw [hw5] at hn
    rw [hw5]
    have hb6 := hb.trans (hb5.mono hb.size)
    have hg := hb.size
    have k10 := (hb5.block a10 (lt_of_heap h10)).trans h10
    have l10 := lt_of_heap h10
    refine hK.out _ _ ((hb6.block B (lt_of_heap hB)).trans hB) (fun _ => ?_)
    clear hK K
    try simp only [Act.put, List.setIfInBounds_toArray, List.set_cons_zero, List.set_cons_succ]
    exact st_0_01 (u10 := undef) (u11 := undef) hB hb6 g10 k10 hg hn (show a10 ≠ w.heap.size by omega) hN
  refine AllReadyH.cons (o := { dst := some 12, op := Go.Op.alloc 67, type := 0, pos := "law.go:33", after := #[], guard := none }) rfl (fun K hK => ?_) AllReadyH.nil
  go_simp
  obtain ⟨w5, hw5⟩ : ∃ w5, w.alloc (.cells #[.int .i64 0, .int .i64 0, .int .i64 0, .int .i64 0, .int .i64 0, .int .i64 0, .int .i64 0, .int .i64 0, .int .i64 0, .int .i64 0, .int .i64 0, .int .i64 0, .bool false, .bool false, .int .i64 0, .int .i64 0, .int .i64 0, .int .i64 0, .int .i64 0] 67) = w5 := ⟨_, rfl⟩
  have hn := heap_alloc_new w (.cells #[.int .i64 0, .int .i64 0, .int .i64 0, .int .i64 0, .int .i64 0, .int .i64 0, .int .i64 0, .int .i64 0, .int .i64 0, .int .i64 0, .int .i64 0, .int .i64 0, .bool false, .bool false, .int .i64 0, .int .i64 0, .int .i64 0, .int .i64 0, .int .i64 0] 67)
  have hb5 : Below w.heap.size w w5 := by rw [← hw5]; go_grown
  rw [hw5] at hn
  rw [hw5]
  have hb6 := hb.trans (hb5.mono hb.size)
  have hg := hb.size
  have k10 := (hb5.block a10 (lt_of_heap h10)).trans h10
  have l10 := lt_of_heap h10
  refine hK.out _ _ ((hb6.block B (lt_of_heap hB)).trans hB) (fun _ => ?_)
  clear hK K
  try simp only [Act.put, List.setIfInBounds_toArray, List.set_cons_zero, List.set_cons_succ]
  exact st_0_02 (u10 := undef) (u12 := undef) hB hb6 g10 k10 hg hn (show a10 ≠ w.heap.size by omega) hN
set_option maxRecDepth 20000 in
set_option maxHeartbeats 4000000 in
theorem st_0_1 {x : Fm} {own fn serial : Int} {B : Nat} {wR w : World} {u0 u5 u6 u7 u8 u9 u10 u11 u12 u13 u14 u15 u19 u24 u27 u28 u29 u30 u31 u32 u33 u34 u35 u36 u37 u38 u39 u40 u41 u42 u43 u44 u45 u46 u47 u48 u49 u50 u51 u52 u53 u54 u55 u56 u57 u58 u59 u60 u61 u62 u63 u64 u65 u66 : Value} {Q : Exit → Act → World → Prop} {a11 : Nat} (hB : wR.heap[B]? = some (.cells x.cs 67 (0, 0))) (hb : Below wR.heap.size wR w) (g11 : wR.heap.size ≤ a11) (h11 : w.heap[a11]? = some (.cells #[.int .i64 0, .int .i64 0, .int .i64 0, .int .i64 0, .int .i64 0, .int .i64 0, .int .i64 0, .int .i64 0, .int .i64 0, .int .i64 0, .int .i64 0, .int .i64 0, .bool false, .bool false, .int .i64 0, .int .i64 0, .int .i64 0, .int .i64 0, .int .i64 0] 67 (0, 0)))
    (hN : ∀ (a10 a11 a12 : Nat) (w' : World), Below wR.heap.size wR w' → w'.heap[a10]? = some (.cells (x.child own fn).cs 67 (0, 0)) → w'.heap[a11]? = some (.cells (x.loop own fn serial).cs 67 (0, 0)) → w'.heap[a12]? = some (.cells (x.iter own).cs 67 (0, 0)) → Q .normal ⟨#[u0, .int .i64 own, .int .i64 fn, .int .i64 serial, .pointer (some ⟨B, 0, none⟩), u5, u6, u7, u8, u9, .pointer (some ⟨a10, 0, none⟩), .pointer (some ⟨a11, 0, none⟩), .pointer (some ⟨a12, 0, none⟩), u13, u14, u15, .agg x.cs, .int .i64 own, .int .i64 fn, .agg (x.child own fn).cs, .agg x.cs, .int .i64 own, .int .i64 fn, .int .i64 serial, .agg (x.loop own fn serial).cs, .agg x.cs, .int .i64 own, .agg (x.iter own).cs, u28, u29, u30, u31, u32, u33, u34, u35, u36, u37, u38, u39, u40, u41, u42, u43, u44, u45, u46, u47, u48, u49, u50, u51, u52, u53, u54, u55, u56, u57, u58, u59, u60, u61, u62, u63, u64, u65, u66], []⟩ w') :
    wpAnyH Try.prog .any ops4 Q (fun w' => w'.heap[B]? = some (.cells x.cs 67 (0, 0))) 8 #[true, true, true, false, true, true, true, true, false, true, true, false, false, true, false, false, false, false] ⟨#[u0, .int .i64 own, .int .i64 fn, .int .i64 serial, .pointer (some ⟨B, 0, none⟩), u5, u6, u7, u8, u9, u10, .pointer (some ⟨a11, 0, none⟩), u12, u13, u14, u15, .agg x.cs, .int .i64 own, .int .i64 fn, u19, .agg x.cs, .int .i64 own, .int .i64 fn, .int .i64 serial, u24, .agg x.cs, .int .i64 own, u27, u28, u29, u30, u31, u32, u33, u34, u35, u36, u37, u38, u39, u40, u41, u42, u43, u44, u45, u46, u47, u48, u49, u50, u51, u52, u53, u54, u55, u56, u57, u58, u59, u60, u61, u62, u63, u64, u65, u66], []⟩ w := by
  refine wpAnyH_ready (rs := [3, 12, 14]) (by kernel_rfl) (by simp) ?_
  refine AllReadyH.cons (o := { dst := some 19, op := Go.Op.call { callee := Go.Callee.value (Go.Operand.func 43), args := #[Go.Operand.tmp 16, Go.Operand.tmp 17, Go.Operand.tmp 18], argTypes := #[67, 3, 3] }, type := 67, pos := "law.go:33", after := #[{ on := 0, ground := Go.Ground.data }, { on := 1, ground := Go.Ground.data }, { on := 2, ground := Go.Ground.data }], guard := none }) rfl (fun K hK => ?_) ?_
  · go_simp
    refine (child_of x own fn _).mono ?_
    rintro e w5 ⟨rfl, hb5⟩
    try simp only [go_sem]
    have hb6 := hb.trans (hb5.mono hb.size)
    have k11 := (hb5.block a11 (lt_of_heap h11)).trans h11
    refine hK.out _ _ ((hb6.block B (lt_of_heap hB)).trans hB) (fun _ => ?_)
    clear hK K
    try simp only [Act.put, List.setIfInBounds_toArray, List.set_cons_zero, List.set_cons_succ]
    exact st_1_1 (u11 := undef) (u19 := undef) hB hb6 g11 k11 hN
  refine AllReadyH.cons (o := { dst := some 10, op := Go.Op.alloc 67, type := 0, pos := "law.go:33", after := #[], guard := none }) rfl (fun K hK => ?_) ?_
  · go_simp
    obtain ⟨w5, hw5⟩ : ∃ w5, w.alloc (.cells #[.int .i64 0, .int .i64 0, .int .i64 0, .int .i64 0, .int .i64 0, .int .i64 0, .int .i64 0, .int .i64 0, .int .i64 0, .int .i64 0, .int .i64 0, .int .i64 0, .bool false, .bool false, .int .i64 0, .int .i64 0, .int .i64 0, .int .i64 0, .int .i64 0] 67) = w5 := ⟨_, rfl⟩
    have hn := heap_alloc_new w (.cells #[.int .i64 0, .int .i64 0, .int .i64 0, .int .i64 0, .int .i64 0, .int .i64 0, .int .i64 0, .int .i64 0, .int .i64 0, .int .i64 0, .int .i64 0, .int .i64 0, .bool false, .bool false, .int .i64 0, .int .i64 0, .int .i64 0, .int .i64 0, .int .i64 0] 67)
    have hb5 : Below w.heap.size w w5 := by rw [← hw5]; go_grown
    rw [hw5] at hn
    rw [hw5]
    have hb6 := hb.trans (hb5.mono hb.size)
    have hg := hb.size
    have k11 := (hb5.block a11 (lt_of_heap h11)).trans h11
    have l11 := lt_of_heap h11
    refine hK.out _ _ ((hb6.block B (lt_of_heap hB)).trans hB) (fun _ => ?_)
    clear hK K
    try simp only [Act.put, List.setIfInBounds_toArray, List.set_cons_zero, List.set_cons_succ]
    exact st_0_01 (u10 := undef) (u11 := undef) hB hb6 hg hn g11 k11 (show w.heap.size ≠ a11 by omega) hN
  refine AllReadyH.cons (o := { dst := some 12, op := Go.Op.alloc 67, type := 0, pos := "law.go:33", after := #[], guard := none }) rfl (fun K hK => ?_) AllReadyH.nil
  go_simp
  obtain ⟨w5, hw5⟩ : ∃ w5, w.alloc (.cells #[.int .i64 0, .int .i64 0, .int .i64 0, .int .i64 0, .int .i64 0, .int .i64 0, .int .i64 0, .int .i64 0, .int .i64 0, .int .i64 0, .int .i64 0, .int .i64 0, .bool false, .bool false, .int .i64 0, .int .i64 0, .int .i64 0, .int .i64 0, .int .i64 0] 67) = w5 := ⟨_, rfl⟩
  have hn := heap_alloc_new w (.cells #[.int .i64 0, .int .i64 0, .int .i64 0, .int .i64 0, .int .i64 0, .int .i64 0, .int .i64 0, .int .i64 0, .int .i64 0, .int .i64 0, .int .i64 0, .int .i64 0, .bool false, .bool false, .int .i64 0, .int .i64 0, .int .i64 0, .int .i64 0, .int .i64 0] 67)
  have hb5 : Below w.heap.size w w5 := by rw [← hw5]; go_grown
  rw [hw5] at hn
  rw [hw5]
  have hb6 := hb.trans (hb5.mono hb.size)
  have hg := hb.size
  have k11 := (hb5.block a11 (lt_of_heap h11)).trans h11
  have l11 := lt_of_heap h11
  refine hK.out _ _ ((hb6.block B (lt_of_heap hB)).trans hB) (fun _ => ?_)
  clear hK K
  try simp only [Act.put, List.setIfInBounds_toArray, List.set_cons_zero, List.set_cons_succ]
  exact st_0_12 (u11 := undef) (u12 := undef) hB hb6 g11 k11 hg hn (show a11 ≠ w.heap.size by omega) hN
set_option maxRecDepth 20000 in
set_option maxHeartbeats 4000000 in
theorem st_0_2 {x : Fm} {own fn serial : Int} {B : Nat} {wR w : World} {u0 u5 u6 u7 u8 u9 u10 u11 u12 u13 u14 u15 u19 u24 u27 u28 u29 u30 u31 u32 u33 u34 u35 u36 u37 u38 u39 u40 u41 u42 u43 u44 u45 u46 u47 u48 u49 u50 u51 u52 u53 u54 u55 u56 u57 u58 u59 u60 u61 u62 u63 u64 u65 u66 : Value} {Q : Exit → Act → World → Prop} {a12 : Nat} (hB : wR.heap[B]? = some (.cells x.cs 67 (0, 0))) (hb : Below wR.heap.size wR w) (g12 : wR.heap.size ≤ a12) (h12 : w.heap[a12]? = some (.cells #[.int .i64 0, .int .i64 0, .int .i64 0, .int .i64 0, .int .i64 0, .int .i64 0, .int .i64 0, .int .i64 0, .int .i64 0, .int .i64 0, .int .i64 0, .int .i64 0, .bool false, .bool false, .int .i64 0, .int .i64 0, .int .i64 0, .int .i64 0, .int .i64 0] 67 (0, 0)))
    (hN : ∀ (a10 a11 a12 : Nat) (w' : World), Below wR.heap.size wR w' → w'.heap[a10]? = some (.cells (x.child own fn).cs 67 (0, 0)) → w'.heap[a11]? = some (.cells (x.loop own fn serial).cs 67 (0, 0)) → w'.heap[a12]? = some (.cells (x.iter own).cs 67 (0, 0)) → Q .normal ⟨#[u0, .int .i64 own, .int .i64 fn, .int .i64 serial, .pointer (some ⟨B, 0, none⟩), u5, u6, u7, u8, u9, .pointer (some ⟨a10, 0, none⟩), .pointer (some ⟨a11, 0, none⟩), .pointer (some ⟨a12, 0, none⟩), u13, u14, u15, .agg x.cs, .int .i64 own, .int .i64 fn, .agg (x.child own fn).cs, .agg x.cs, .int .i64 own, .int .i64 fn, .int .i64 serial, .agg (x.loop own fn serial).cs, .agg x.cs, .int .i64 own, .agg (x.iter own).cs, u28, u29, u30, u31, u32, u33, u34, u35, u36, u37, u38, u39, u40, u41, u42, u43, u44, u45, u46, u47, u48, u49, u50, u51, u52, u53, u54, u55, u56, u57, u58, u59, u60, u61, u62, u63, u64, u65, u66], []⟩ w') :
    wpAnyH Try.prog .any ops4 Q (fun w' => w'.heap[B]? = some (.cells x.cs 67 (0, 0))) 8 #[true, true, true, false, true, true, true, true, false, true, true, false, false, false, true, false, false, false] ⟨#[u0, .int .i64 own, .int .i64 fn, .int .i64 serial, .pointer (some ⟨B, 0, none⟩), u5, u6, u7, u8, u9, u10, u11, .pointer (some ⟨a12, 0, none⟩), u13, u14, u15, .agg x.cs, .int .i64 own, .int .i64 fn, u19, .agg x.cs, .int .i64 own, .int .i64 fn, .int .i64 serial, u24, .agg x.cs, .int .i64 own, u27, u28, u29, u30, u31, u32, u33, u34, u35, u36, u37, u38, u39, u40, u41, u42, u43, u44, u45, u46, u47, u48, u49, u50, u51, u52, u53, u54, u55, u56, u57, u58, u59, u60, u61, u62, u63, u64, u65, u66], []⟩ w := by
  refine wpAnyH_ready (rs := [3, 12, 13]) (by kernel_rfl) (by simp) ?_
  refine AllReadyH.cons (o := { dst := some 19, op := Go.Op.call { callee := Go.Callee.value (Go.Operand.func 43), args := #[Go.Operand.tmp 16, Go.Operand.tmp 17, Go.Operand.tmp 18], argTypes := #[67, 3, 3] }, type := 67, pos := "law.go:33", after := #[{ on := 0, ground := Go.Ground.data }, { on := 1, ground := Go.Ground.data }, { on := 2, ground := Go.Ground.data }], guard := none }) rfl (fun K hK => ?_) ?_
  · go_simp
    refine (child_of x own fn _).mono ?_
    rintro e w5 ⟨rfl, hb5⟩
    try simp only [go_sem]
    have hb6 := hb.trans (hb5.mono hb.size)
    have k12 := (hb5.block a12 (lt_of_heap h12)).trans h12
    refine hK.out _ _ ((hb6.block B (lt_of_heap hB)).trans hB) (fun _ => ?_)
    clear hK K
    try simp only [Act.put, List.setIfInBounds_toArray, List.set_cons_zero, List.set_cons_succ]
    exact st_1_2 (u12 := undef) (u19 := undef) hB hb6 g12 k12 hN
  refine AllReadyH.cons (o := { dst := some 10, op := Go.Op.alloc 67, type := 0, pos := "law.go:33", after := #[], guard := none }) rfl (fun K hK => ?_) ?_
  · go_simp
    obtain ⟨w5, hw5⟩ : ∃ w5, w.alloc (.cells #[.int .i64 0, .int .i64 0, .int .i64 0, .int .i64 0, .int .i64 0, .int .i64 0, .int .i64 0, .int .i64 0, .int .i64 0, .int .i64 0, .int .i64 0, .int .i64 0, .bool false, .bool false, .int .i64 0, .int .i64 0, .int .i64 0, .int .i64 0, .int .i64 0] 67) = w5 := ⟨_, rfl⟩
    have hn := heap_alloc_new w (.cells #[.int .i64 0, .int .i64 0, .int .i64 0, .int .i64 0, .int .i64 0, .int .i64 0, .int .i64 0, .int .i64 0, .int .i64 0, .int .i64 0, .int .i64 0, .int .i64 0, .bool false, .bool false, .int .i64 0, .int .i64 0, .int .i64 0, .int .i64 0, .int .i64 0] 67)
    have hb5 : Below w.heap.size w w5 := by rw [← hw5]; go_grown
    rw [hw5] at hn
    rw [hw5]
    have hb6 := hb.trans (hb5.mono hb.size)
    have hg := hb.size
    have k12 := (hb5.block a12 (lt_of_heap h12)).trans h12
    have l12 := lt_of_heap h12
    refine hK.out _ _ ((hb6.block B (lt_of_heap hB)).trans hB) (fun _ => ?_)
    clear hK K
    try simp only [Act.put, List.setIfInBounds_toArray, List.set_cons_zero, List.set_cons_succ]
    exact st_0_02 (u10 := undef) (u12 := undef) hB hb6 hg hn g12 k12 (show w.heap.size ≠ a12 by omega) hN
  refine AllReadyH.cons (o := { dst := some 11, op := Go.Op.alloc 67, type := 0, pos := "law.go:33", after := #[], guard := none }) rfl (fun K hK => ?_) AllReadyH.nil
  go_simp
  obtain ⟨w5, hw5⟩ : ∃ w5, w.alloc (.cells #[.int .i64 0, .int .i64 0, .int .i64 0, .int .i64 0, .int .i64 0, .int .i64 0, .int .i64 0, .int .i64 0, .int .i64 0, .int .i64 0, .int .i64 0, .int .i64 0, .bool false, .bool false, .int .i64 0, .int .i64 0, .int .i64 0, .int .i64 0, .int .i64 0] 67) = w5 := ⟨_, rfl⟩
  have hn := heap_alloc_new w (.cells #[.int .i64 0, .int .i64 0, .int .i64 0, .int .i64 0, .int .i64 0, .int .i64 0, .int .i64 0, .int .i64 0, .int .i64 0, .int .i64 0, .int .i64 0, .int .i64 0, .bool false, .bool false, .int .i64 0, .int .i64 0, .int .i64 0, .int .i64 0, .int .i64 0] 67)
  have hb5 : Below w.heap.size w w5 := by rw [← hw5]; go_grown
  rw [hw5] at hn
  rw [hw5]
  have hb6 := hb.trans (hb5.mono hb.size)
  have hg := hb.size
  have k12 := (hb5.block a12 (lt_of_heap h12)).trans h12
  have l12 := lt_of_heap h12
  refine hK.out _ _ ((hb6.block B (lt_of_heap hB)).trans hB) (fun _ => ?_)
  clear hK K
  try simp only [Act.put, List.setIfInBounds_toArray, List.set_cons_zero, List.set_cons_succ]
  exact st_0_12 (u11 := undef) (u12 := undef) hB hb6 hg hn g12 k12 (show w.heap.size ≠ a12 by omega) hN
set_option maxRecDepth 20000 in
set_option maxHeartbeats 4000000 in
theorem st_1_n {x : Fm} {own fn serial : Int} {B : Nat} {wR w : World} {u0 u5 u6 u7 u8 u9 u10 u11 u12 u13 u14 u15 u19 u24 u27 u28 u29 u30 u31 u32 u33 u34 u35 u36 u37 u38 u39 u40 u41 u42 u43 u44 u45 u46 u47 u48 u49 u50 u51 u52 u53 u54 u55 u56 u57 u58 u59 u60 u61 u62 u63 u64 u65 u66 : Value} {Q : Exit → Act → World → Prop} (hB : wR.heap[B]? = some (.cells x.cs 67 (0, 0))) (hb : Below wR.heap.size wR w)
    (hN : ∀ (a10 a11 a12 : Nat) (w' : World), Below wR.heap.size wR w' → w'.heap[a10]? = some (.cells (x.child own fn).cs 67 (0, 0)) → w'.heap[a11]? = some (.cells (x.loop own fn serial).cs 67 (0, 0)) → w'.heap[a12]? = some (.cells (x.iter own).cs 67 (0, 0)) → Q .normal ⟨#[u0, .int .i64 own, .int .i64 fn, .int .i64 serial, .pointer (some ⟨B, 0, none⟩), u5, u6, u7, u8, u9, .pointer (some ⟨a10, 0, none⟩), .pointer (some ⟨a11, 0, none⟩), .pointer (some ⟨a12, 0, none⟩), u13, u14, u15, .agg x.cs, .int .i64 own, .int .i64 fn, .agg (x.child own fn).cs, .agg x.cs, .int .i64 own, .int .i64 fn, .int .i64 serial, .agg (x.loop own fn serial).cs, .agg x.cs, .int .i64 own, .agg (x.iter own).cs, u28, u29, u30, u31, u32, u33, u34, u35, u36, u37, u38, u39, u40, u41, u42, u43, u44, u45, u46, u47, u48, u49, u50, u51, u52, u53, u54, u55, u56, u57, u58, u59, u60, u61, u62, u63, u64, u65, u66], []⟩ w') :
    wpAnyH Try.prog .any ops4 Q (fun w' => w'.heap[B]? = some (.cells x.cs 67 (0, 0))) 8 #[true, true, true, true, true, true, true, true, false, true, true, false, false, false, false, false, false, false] ⟨#[u0, .int .i64 own, .int .i64 fn, .int .i64 serial, .pointer (some ⟨B, 0, none⟩), u5, u6, u7, u8, u9, u10, u11, u12, u13, u14, u15, .agg x.cs, .int .i64 own, .int .i64 fn, .agg (x.child own fn).cs, .agg x.cs, .int .i64 own, .int .i64 fn, .int .i64 serial, u24, .agg x.cs, .int .i64 own, u27, u28, u29, u30, u31, u32, u33, u34, u35, u36, u37, u38, u39, u40, u41, u42, u43, u44, u45, u46, u47, u48, u49, u50, u51, u52, u53, u54, u55, u56, u57, u58, u59, u60, u61, u62, u63, u64, u65, u66], []⟩ w := by
  refine wpAnyH_ready (rs := [8, 12, 13, 14]) (by kernel_rfl) (by simp) ?_
  refine AllReadyH.cons (o := { dst := some 24, op := Go.Op.call { callee := Go.Callee.value (Go.Operand.func 44), args := #[Go.Operand.tmp 20, Go.Operand.tmp 21, Go.Operand.tmp 22, Go.Operand.tmp 23], argTypes := #[67, 3, 3, 3] }, type := 67, pos := "law.go:33", after := #[{ on := 4, ground := Go.Ground.data }, { on := 5, ground := Go.Ground.data }, { on := 6, ground := Go.Ground.data }, { on := 7, ground := Go.Ground.data }, { on := 3, ground := Go.Ground.chain }], guard := none }) rfl (fun K hK => ?_) ?_
  · go_simp
    refine (loop_of x own fn serial _).mono ?_
    rintro e w5 ⟨rfl, hb5⟩
    try simp only [go_sem]
    have hb6 := hb.trans (hb5.mono hb.size)
    refine hK.out _ _ ((hb6.block B (lt_of_heap hB)).trans hB) (fun _ => ?_)
    clear hK K
    try simp only [Act.put, List.setIfInBounds_toArray, List.set_cons_zero, List.set_cons_succ]
    exact st_2_n (u19 := undef) (u24 := undef) hB hb6 hN
  refine AllReadyH.cons (o := { dst := some 10, op := Go.Op.alloc 67, type := 0, pos := "law.go:33", after := #[], guard := none }) rfl (fun K hK => ?_) ?_
  · go_simp
    obtain ⟨w5, hw5⟩ : ∃ w5, w.alloc (.cells #[.int .i64 0, .int .i64 0, .int .i64 0, .int .i64 0, .int .i64 0, .int .i64 0, .int .i64 0, .int .i64 0, .int .i64 0, .int .i64 0, .int .i64 0, .int .i64 0, .bool false, .bool false, .int .i64 0, .int .i64 0, .int .i64 0, .int .i64 0, .int .i64 0] 67) = w5 := ⟨_, rfl⟩
    have hn := heap_alloc_new w (.cells #[.int .i64 0, .int .i64 0, .int .i64 0, .int .i64 0, .int .i64 0, .int .i64 0, .int .i64 0, .int .i64 0, .int .i64 0, .int .i64 0, .int .i64 0, .int .i64 0, .bool false, .bool false, .int .i64 0, .int .i64 0, .int .i64 0, .int .i64 0, .int .i64 0] 67)
    have hb5 : Below w.heap.size w w5 := by rw [← hw5]; go_grown
    rw [hw5] at hn
    rw [hw5]
    have hb6 := hb.trans (hb5.mono hb.size)
    have hg := hb.size
    refine hK.out _ _ ((hb6.block B (lt_of_heap hB)).trans hB) (fun _ => ?_)
    clear hK K
    try simp only [Act.put, List.setIfInBounds_toArray, List.set_cons_zero, List.set_cons_succ]
    exact st_1_0 (u10 := undef) (u19 := undef) hB hb6 hg hn hN
  refine AllReadyH.cons (o := { dst := some 11, op := Go.Op.alloc 67, type := 0, pos := "law.go:33", after := #[], guard := none }) rfl (fun K hK => ?_) ?_
  · go_simp
    obtain ⟨w5, hw5⟩ : ∃ w5, w.alloc (.cells #[.int .i64 0, .int .i64 0, .int .i64 0, .int .i64 0, .int .i64 0, .int .i64 0, .int .i64 0, .int .i64 0, .int .i64 0, .int .i64 0, .int .i64 0, .int .i64 0, .bool false, .bool false, .int .i64 0, .int .i64 0, .int .i64 0, .int .i64 0, .int .i64 0] 67) = w5 := ⟨_, rfl⟩
    have hn := heap_alloc_new w (.cells #[.int .i64 0, .int .i64 0, .int .i64 0, .int .i64 0, .int .i64 0, .int .i64 0, .int .i64 0, .int .i64 0, .int .i64 0, .int .i64 0, .int .i64 0, .int .i64 0, .bool false, .bool false, .int .i64 0, .int .i64 0, .int .i64 0, .int .i64 0, .int .i64 0] 67)
    have hb5 : Below w.heap.size w w5 := by rw [← hw5]; go_grown
    rw [hw5] at hn
    rw [hw5]
    have hb6 := hb.trans (hb5.mono hb.size)
    have hg := hb.size
    refine hK.out _ _ ((hb6.block B (lt_of_heap hB)).trans hB) (fun _ => ?_)
    clear hK K
    try simp only [Act.put, List.setIfInBounds_toArray, List.set_cons_zero, List.set_cons_succ]
    exact st_1_1 (u11 := undef) (u19 := undef) hB hb6 hg hn hN
  refine AllReadyH.cons (o := { dst := some 12, op := Go.Op.alloc 67, type := 0, pos := "law.go:33", after := #[], guard := none }) rfl (fun K hK => ?_) AllReadyH.nil
  go_simp
  obtain ⟨w5, hw5⟩ : ∃ w5, w.alloc (.cells #[.int .i64 0, .int .i64 0, .int .i64 0, .int .i64 0, .int .i64 0, .int .i64 0, .int .i64 0, .int .i64 0, .int .i64 0, .int .i64 0, .int .i64 0, .int .i64 0, .bool false, .bool false, .int .i64 0, .int .i64 0, .int .i64 0, .int .i64 0, .int .i64 0] 67) = w5 := ⟨_, rfl⟩
  have hn := heap_alloc_new w (.cells #[.int .i64 0, .int .i64 0, .int .i64 0, .int .i64 0, .int .i64 0, .int .i64 0, .int .i64 0, .int .i64 0, .int .i64 0, .int .i64 0, .int .i64 0, .int .i64 0, .bool false, .bool false, .int .i64 0, .int .i64 0, .int .i64 0, .int .i64 0, .int .i64 0] 67)
  have hb5 : Below w.heap.size w w5 := by rw [← hw5]; go_grown
  rw [hw5] at hn
  rw [hw5]
  have hb6 := hb.trans (hb5.mono hb.size)
  have hg := hb.size
  refine hK.out _ _ ((hb6.block B (lt_of_heap hB)).trans hB) (fun _ => ?_)
  clear hK K
  try simp only [Act.put, List.setIfInBounds_toArray, List.set_cons_zero, List.set_cons_succ]
  exact st_1_2 (u12 := undef) (u19 := undef) hB hb6 hg hn hN
set_option maxRecDepth 20000 in
set_option maxHeartbeats 4000000 in
theorem st_0_n {x : Fm} {own fn serial : Int} {B : Nat} {wR w : World} {u0 u5 u6 u7 u8 u9 u10 u11 u12 u13 u14 u15 u19 u24 u27 u28 u29 u30 u31 u32 u33 u34 u35 u36 u37 u38 u39 u40 u41 u42 u43 u44 u45 u46 u47 u48 u49 u50 u51 u52 u53 u54 u55 u56 u57 u58 u59 u60 u61 u62 u63 u64 u65 u66 : Value} {Q : Exit → Act → World → Prop} (hB : wR.heap[B]? = some (.cells x.cs 67 (0, 0))) (hb : Below wR.heap.size wR w)
    (hN : ∀ (a10 a11 a12 : Nat) (w' : World), Below wR.heap.size wR w' → w'.heap[a10]? = some (.cells (x.child own fn).cs 67 (0, 0)) → w'.heap[a11]? = some (.cells (x.loop own fn serial).cs 67 (0, 0)) → w'.heap[a12]? = some (.cells (x.iter own).cs 67 (0, 0)) → Q .normal ⟨#[u0, .int .i64 own, .int .i64 fn, .int .i64 serial, .pointer (some ⟨B, 0, none⟩), u5, u6, u7, u8, u9, .pointer (some ⟨a10, 0, none⟩), .pointer (some ⟨a11, 0, none⟩), .pointer (some ⟨a12, 0, none⟩), u13, u14, u15, .agg x.cs, .int .i64 own, .int .i64 fn, .agg (x.child own fn).cs, .agg x.cs, .int .i64 own, .int .i64 fn, .int .i64 serial, .agg (x.loop own fn serial).cs, .agg x.cs, .int .i64 own, .agg (x.iter own).cs, u28, u29, u30, u31, u32, u33, u34, u35, u36, u37, u38, u39, u40, u41, u42, u43, u44, u45, u46, u47, u48, u49, u50, u51, u52, u53, u54, u55, u56, u57, u58, u59, u60, u61, u62, u63, u64, u65, u66], []⟩ w') :
    wpAnyH Try.prog .any ops4 Q (fun w' => w'.heap[B]? = some (.cells x.cs 67 (0, 0))) 9 #[true, true, true, false, true, true, true, true, false, true, true, false, false, false, false, false, false, false] ⟨#[u0, .int .i64 own, .int .i64 fn, .int .i64 serial, .pointer (some ⟨B, 0, none⟩), u5, u6, u7, u8, u9, u10, u11, u12, u13, u14, u15, .agg x.cs, .int .i64 own, .int .i64 fn, u19, .agg x.cs, .int .i64 own, .int .i64 fn, .int .i64 serial, u24, .agg x.cs, .int .i64 own, u27, u28, u29, u30, u31, u32, u33, u34, u35, u36, u37, u38, u39, u40, u41, u42, u43, u44, u45, u46, u47, u48, u49, u50, u51, u52, u53, u54, u55, u56, u57, u58, u59, u60, u61, u62, u63, u64, u65, u66], []⟩ w := by
  refine wpAnyH_ready (rs := [3, 12, 13, 14]) (by kernel_rfl) (by simp) ?_
  refine AllReadyH.cons (o := { dst := some 19, op := Go.Op.call { callee := Go.Callee.value (Go.Operand.func 43), args := #[Go.Operand.tmp 16, Go.Operand.tmp 17, Go.Operand.tmp 18], argTypes := #[67, 3, 3] }, type := 67, pos := "law.go:33", after := #[{ on := 0, ground := Go.Ground.data }, { on := 1, ground := Go.Ground.data }, { on := 2, ground := Go.Ground.data }], guard := none }) rfl (fun K hK => ?_) ?_
  · go_simp
    refine (child_of x own fn _).mono ?_
    rintro e w5 ⟨rfl, hb5⟩
    try simp only [go_sem]
    have hb6 := hb.trans (hb5.mono hb.size)
    refine hK.out _ _ ((hb6.block B (lt_of_heap hB)).trans hB) (fun _ => ?_)
    clear hK K
    try simp only [Act.put, List.setIfInBounds_toArray, List.set_cons_zero, List.set_cons_succ]
    exact st_1_n (u19 := undef) hB hb6 hN
  refine AllReadyH.cons (o := { dst := some 10, op := Go.Op.alloc 67, type := 0, pos := "law.go:33", after := #[], guard := none }) rfl (fun K hK => ?_) ?_
  · go_simp
    obtain ⟨w5, hw5⟩ : ∃ w5, w.alloc (.cells #[.int .i64 0, .int .i64 0, .int .i64 0, .int .i64 0, .int .i64 0, .int .i64 0, .int .i64 0, .int .i64 0, .int .i64 0, .int .i64 0, .int .i64 0, .int .i64 0, .bool false, .bool false, .int .i64 0, .int .i64 0, .int .i64 0, .int .i64 0, .int .i64 0] 67) = w5 := ⟨_, rfl⟩
    have hn := heap_alloc_new w (.cells #[.int .i64 0, .int .i64 0, .int .i64 0, .int .i64 0, .int .i64 0, .int .i64 0, .int .i64 0, .int .i64 0, .int .i64 0, .int .i64 0, .int .i64 0, .int .i64 0, .bool false, .bool false, .int .i64 0, .int .i64 0, .int .i64 0, .int .i64 0, .int .i64 0] 67)
    have hb5 : Below w.heap.size w w5 := by rw [← hw5]; go_grown
    rw [hw5] at hn
    rw [hw5]
    have hb6 := hb.trans (hb5.mono hb.size)
    have hg := hb.size
    refine hK.out _ _ ((hb6.block B (lt_of_heap hB)).trans hB) (fun _ => ?_)
    clear hK K
    try simp only [Act.put, List.setIfInBounds_toArray, List.set_cons_zero, List.set_cons_succ]
    exact st_0_0 (u10 := undef) hB hb6 hg hn hN
  refine AllReadyH.cons (o := { dst := some 11, op := Go.Op.alloc 67, type := 0, pos := "law.go:33", after := #[], guard := none }) rfl (fun K hK => ?_) ?_
  · go_simp
    obtain ⟨w5, hw5⟩ : ∃ w5, w.alloc (.cells #[.int .i64 0, .int .i64 0, .int .i64 0, .int .i64 0, .int .i64 0, .int .i64 0, .int .i64 0, .int .i64 0, .int .i64 0, .int .i64 0, .int .i64 0, .int .i64 0, .bool false, .bool false, .int .i64 0, .int .i64 0, .int .i64 0, .int .i64 0, .int .i64 0] 67) = w5 := ⟨_, rfl⟩
    have hn := heap_alloc_new w (.cells #[.int .i64 0, .int .i64 0, .int .i64 0, .int .i64 0, .int .i64 0, .int .i64 0, .int .i64 0, .int .i64 0, .int .i64 0, .int .i64 0, .int .i64 0, .int .i64 0, .bool false, .bool false, .int .i64 0, .int .i64 0, .int .i64 0, .int .i64 0, .int .i64 0] 67)
    have hb5 : Below w.heap.size w w5 := by rw [← hw5]; go_grown
    rw [hw5] at hn
    rw [hw5]
    have hb6 := hb.trans (hb5.mono hb.size)
    have hg := hb.size
    refine hK.out _ _ ((hb6.block B (lt_of_heap hB)).trans hB) (fun _ => ?_)
    clear hK K
    try simp only [Act.put, List.setIfInBounds_toArray, List.set_cons_zero, List.set_cons_succ]
    exact st_0_1 (u11 := undef) hB hb6 hg hn hN
  refine AllReadyH.cons (o := { dst := some 12, op := Go.Op.alloc 67, type := 0, pos := "law.go:33", after := #[], guard := none }) rfl (fun K hK => ?_) AllReadyH.nil
  go_simp
  obtain ⟨w5, hw5⟩ : ∃ w5, w.alloc (.cells #[.int .i64 0, .int .i64 0, .int .i64 0, .int .i64 0, .int .i64 0, .int .i64 0, .int .i64 0, .int .i64 0, .int .i64 0, .int .i64 0, .int .i64 0, .int .i64 0, .bool false, .bool false, .int .i64 0, .int .i64 0, .int .i64 0, .int .i64 0, .int .i64 0] 67) = w5 := ⟨_, rfl⟩
  have hn := heap_alloc_new w (.cells #[.int .i64 0, .int .i64 0, .int .i64 0, .int .i64 0, .int .i64 0, .int .i64 0, .int .i64 0, .int .i64 0, .int .i64 0, .int .i64 0, .int .i64 0, .int .i64 0, .bool false, .bool false, .int .i64 0, .int .i64 0, .int .i64 0, .int .i64 0, .int .i64 0] 67)
  have hb5 : Below w.heap.size w w5 := by rw [← hw5]; go_grown
  rw [hw5] at hn
  rw [hw5]
  have hb6 := hb.trans (hb5.mono hb.size)
  have hg := hb.size
  refine hK.out _ _ ((hb6.block B (lt_of_heap hB)).trans hB) (fun _ => ?_)
  clear hK K
  try simp only [Act.put, List.setIfInBounds_toArray, List.set_cons_zero, List.set_cons_succ]
  exact st_0_2 (u12 := undef) hB hb6 hg hn hN
end Go.Proofs.Ytajmmglfdinahaa.fm
