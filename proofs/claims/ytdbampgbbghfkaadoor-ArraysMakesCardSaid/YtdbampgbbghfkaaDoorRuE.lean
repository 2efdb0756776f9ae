/- appendRune, Encode. -/
import Derived.Test.YtdbampgbbghfkaaDoorRuD
import Derived.Deep.RegionLaw
import Derived.Deep.AppendLies
import Derived.RangeFuncRecord
import Derived.RangeFuncBox
import Derived.Laws.BitsLemmas
namespace Go.Proofs.YtdbampgbbghfkaaDoor.Ru
open Go.RowKit

set_option maxRecDepth 100000
/-- A row of bytes of the call's own. -/
def Bys (w : World) (base : Nat) (v : Value) (l : List UInt8) : Prop := w.ownsRow base 5 1 v l.length (l.map fun c => .int .u8 (c.toNat : Int))
theorem own_below {w w' : World} {base : Nat} {e : TypeId} {size : Nat} {v : Value} {n : Nat} {xs : List Value} (h : w.ownsRow base e size v n xs) (hb : Below w.heap.size w w') : w'.ownsRow base e size v n xs := by
  obtain ⟨h1, h2⟩ := h
  refine ⟨h1, ?_⟩
  rcases h2 with h2 | ⟨g, cap, cur, hv, hg, hh, r⟩
  · exact .inl h2
  · exact .inr ⟨g, cap, cur, hv, hg, by rw [hb.block g (Array.getElem?_eq_some_iff.1 hh).1]; exact hh, r⟩
theorem info5 : (Tryd.prog.info? 5).map (fun i => (i.zero, i.size, i.bytes)) = some (some (.int .u8 0), 1, 1) := by kernel_rfl
/-- What stands at the head of a new block. -/
theorem cells_new (w : World) (cs : Array Value) (t : TypeId) (z : Nat × Nat) : ∀ j u, cs.toList[j]? = some u → (w.alloc (.cells cs t z)).cell? ((⟨w.heap.size, 0, none⟩ : Addr).add j) = some u := by
  intro j u h
  have e : (⟨w.heap.size, 0, none⟩ : Addr).add j = ⟨w.heap.size, j, none⟩ := by simp [Addr.add]; intro h; exact h.symm
  rw [e]
  have h2 : (w.alloc (.cells cs t z)).heap[w.heap.size]? = some (.cells cs t z) := World.alloc_heap_new w _
  rw [cell_of_block h2 j]
  simpa using h
theorem cells_new' (w : World) (cs : Array Value) (news : List Value) (t : TypeId) (z : Nat × Nat) (h : cs.toList = news) : ∀ j u, news[j]? = some u → (w.alloc (.cells cs t z)).cell? ((⟨w.heap.size, 0, none⟩ : Addr).add j) = some u := by
  subst h; exact cells_new w cs t z
theorem cells_newD (w : World) (cs : Array Value) (news : List Value) (t : TypeId) (z : Nat × Nat) (h : cs.toList = news) : ∀ j u, news[j]? = some u → (w.alloc (.cells cs t z)).drew.cell? ((⟨w.heap.size, 0, none⟩ : Addr).add j) = some u :=
  cells_new' w cs news t z h

theorem bys_snoc {w : World} {B : Nat} {v : Value} {l : List UInt8} {c : UInt8} {z : Int} (hz : (c.toNat : Int) = z) (h : w.ownsRow B 5 1 v (l.length + 1) ((l.map fun c => .int .u8 (c.toNat : Int)) ++ [.int .u8 z])) : Bys w B v (l ++ [c]) := by
  unfold Bys; subst hz; rw [List.length_append, List.map_append]; exact h
theorem on8 (n : Nat) (h : n < 256) {z : Int} (hz : (n : Int) = z) : ((UInt8.ofNat n).toNat : Int) = z := by rw [on n h]; exact hz
theorem lead_cells (x y z : Int) (h : bits BinOp.or IntKind.u8 x (IntKind.u8.wrap y) = z) : (#[.int .u8 (bits BinOp.or IntKind.u8 x (IntKind.u8.wrap y))] : Array Value).toList = [.int .u8 z] := by rw [h]
theorem or0 (y : Int) (h0 : 0 ≤ y) (h1 : y < 256) : bits BinOp.or IntKind.u8 0 (IntKind.u8.wrap y) = y := by
  rw [IntKind.wrap_u8, Int.emod_eq_of_lt h0 h1]
  have key : ∀ c : Fin 256, bits BinOp.or IntKind.u8 0 ((c.val : Nat) : Int) = ((c.val : Nat) : Int) := by decide +kernel
  have := key ⟨y.toNat, by omega⟩
  simpa [Int.toNat_of_nonneg h0] using this
theorem or192 (y : Int) (h0 : 0 ≤ y) (h1 : y < 32) : bits BinOp.or IntKind.u8 192 (IntKind.u8.wrap y) = 192 + y := by
  rw [IntKind.wrap_u8, Int.emod_eq_of_lt h0 (by omega), u8_or192 y h0 h1]
theorem or224 (y : Int) (h0 : 0 ≤ y) (h1 : y < 16) : bits BinOp.or IntKind.u8 224 (IntKind.u8.wrap y) = 224 + y := by
  rw [IntKind.wrap_u8, Int.emod_eq_of_lt h0 (by omega), u8_or224 y h0 h1]
theorem or240 (y : Int) (h0 : 0 ≤ y) (h1 : y < 8) : bits BinOp.or IntKind.u8 240 (IntKind.u8.wrap y) = 240 + y := by
  rw [IntKind.wrap_u8, Int.emod_eq_of_lt h0 (by omega), u8_or240 y h0 h1]

set_option maxHeartbeats 4000000 in
theorem append_1 (B : Nat) (r : Nat) (v : Value) (l : List UInt8) (w : World) (hw : Lay w) (hB : B ≤ w.heap.size) (hown : Bys w B v l) (hl : l.length ≤ 70368744177664) (h1 : (r : Int) < 128) :
    Calls Tryd.prog 54 #[v, .int .i64 r] w fun e w' => ∃ v', e = .returned v' ∧ Bys w' B v' (l ++ enc r) ∧ Below B w w' := by
  obtain ⟨i0, hi, hz0, hz1, hz2⟩ := info_parts info5
  obtain ⟨t, z, hld⟩ := hw.leads
  have hc := cell_of_block hld 1
  simp at hc
  have e0 : IntKind.i64.wrap 0 = 0 := by decide
  go_enter Tryd.func54, Tryd.ntmps54
  go_wp2_with (first
    | (go_at_call 63; refine (width_1 _ _ h1).mono ?_; rintro e w' ⟨rfl, rfl⟩))
  go_region_law (refine step_append_lies _ rfl (.tmp 8) (.tmp 19) 61 rfl B 5 i0 (.int .u8 0) 1 1 Tryd.underlying61 hi hz0 hz1 hz2 rfl (by decide) v l.length (l.map fun c => .int .u8 (c.toNat : Int)) rfl ((hown.alloc _).drew) ⟨w.heap.size, 0, none⟩ 1 1 [.int .u8 (r)] rfl rfl (cells_newD _ _ _ _ _ (lead_cells _ _ _ (or0 _ (by omega) (by omega)))) (by simp [Value.oneCell']) (by decide) (by unfold maxLen; omega) (by omega) (by simp; omega) _ rfl ?_; intro g cap w1 hown' hgrow hat hlt)
  all_goals go_wp2_with fail
  all_goals go_ret
  all_goals exact ⟨_, rfl, by rw [show enc r = [UInt8.ofNat r] by unfold enc encN; rw [if_pos (by omega)]; rfl]; exact bys_snoc (on8 _ (by omega) rfl) hown', (((Below.refl B w).alloc (by omega) _).drew).grown hgrow (by simp; omega) (fun j e => (hown.lt j e).1)⟩

set_option maxHeartbeats 4000000 in
theorem append_2 (B : Nat) (r : Nat) (v : Value) (l : List UInt8) (w : World) (hw : Lay w) (hB : B ≤ w.heap.size) (hown : Bys w B v l) (hl : l.length ≤ 70368744177664) (h0 : ¬ (r : Int) < 128) (h1 : (r : Int) < 2048) :
    Calls Tryd.prog 54 #[v, .int .i64 r] w fun e w' => ∃ v', e = .returned v' ∧ Bys w' B v' (l ++ enc r) ∧ Below B w w' := by
  obtain ⟨i0, hi, hz0, hz1, hz2⟩ := info_parts info5
  obtain ⟨t, z, hld⟩ := hw.leads
  have hc := cell_of_block hld 2
  simp at hc
  have e0 : IntKind.i64.wrap 1 = 1 := by decide
  have e1 : IntKind.i64.wrap 6 = 6 := by decide
  go_enter Tryd.func54, Tryd.ntmps54
  go_wp2_with (first
    | (go_at_call 63; refine (width_2 _ _ h0 h1).mono ?_; rintro e w' ⟨rfl, rfl⟩))
  go_region_law (refine step_append_lies _ rfl (.tmp 8) (.tmp 19) 61 rfl B 5 i0 (.int .u8 0) 1 1 Tryd.underlying61 hi hz0 hz1 hz2 rfl (by decide) v l.length (l.map fun c => .int .u8 (c.toNat : Int)) rfl ((hown.alloc _).drew) ⟨w.heap.size, 0, none⟩ 1 1 [.int .u8 (192 + (r : Int) / 64)] rfl rfl (cells_newD _ _ _ _ _ (lead_cells _ _ _ (or192 _ (by omega) (by omega)))) (by simp [Value.oneCell']) (by decide) (by unfold maxLen; omega) (by omega) (by simp; omega) _ rfl ?_; intro g1 cap1 w1 hown1 hgrow1 hat1 hlt1)
  have hb1 := (((Below.refl B w).alloc (by omega) _).drew).grown hgrow1 (by simp; omega) (fun j e => (hown.lt j e).1)
  have hs1 := hb1.size
  clear hat1 hlt1 hgrow1 hc e0 e1
  go_wp2_with fail
  refine (tailByte_any _ _ (by omega) (by omega)).mono ?_
  rintro e w' ⟨rfl, rfl⟩
  go_wp2_with (at_builtin; refine wpList_append_own _ rfl _ _ 61 rfl B 5 i0 (.int .u8 0) 1 1 Tryd.underlying61 hi hz0 hz1 hz2 rfl (by decide) _ _ _ rfl (hown1.alloc _) ⟨w1.heap.size, 0, none⟩ 1 1 [.int .u8 (128 + (r : Int) % 64)] rfl rfl ?c11 ?c21 ?c31 ?c41 ?c51 ?_; rotate_left 5; intro v2 w2 hown2 hgrow2 _; obtain ⟨g2, cap2, rfl⟩ := ownsRow_succ hown2)
  case c11 => exact cells_new' _ _ _ _ _ rfl
  case c21 => simp [Value.oneCell']
  case c31 => unfold maxLen; omega
  case c41 => omega
  case c51 => simp; omega
  have hb2 := (hb1.alloc (by omega) _).grown hgrow2 (by simp; omega) (fun j e => (hown1.lt j e).1)
  have hs2 := hb2.size
  clear hgrow2
  go_ret
  have q : enc r = [UInt8.ofNat (192 + r / 64), UInt8.ofNat (128 + r % 64)] := by unfold enc encN; rw [if_neg (by omega), if_pos (by omega)]; rfl
  refine ⟨_, rfl, ?_, hb2⟩
  unfold Bys
  rw [q]
  have q2 : (l ++ [UInt8.ofNat (192 + r / 64), UInt8.ofNat (128 + r % 64)]).map (fun c => Value.int .u8 (c.toNat : Int)) = (l.map fun c => Value.int .u8 (c.toNat : Int)) ++ [.int .u8 (192 + (r : Int) / 64), .int .u8 (128 + (r : Int) % 64)] := by
    rw [List.map_append]; simp only [List.map_cons, List.map_nil]
    rw [on (192 + r / 64) (by omega), on (128 + r % 64) (by omega)]
    rfl
  rw [q2, List.length_append]
  simpa [List.append_assoc, Nat.add_assoc] using hown2

set_option maxHeartbeats 4000000 in
theorem append_3 (B : Nat) (r : Nat) (v : Value) (l : List UInt8) (w : World) (hw : Lay w) (hB : B ≤ w.heap.size) (hown : Bys w B v l) (hl : l.length ≤ 70368744177664) (h0 : ¬ (r : Int) < 2048) (h1 : (r : Int) < 65536) :
    Calls Tryd.prog 54 #[v, .int .i64 r] w fun e w' => ∃ v', e = .returned v' ∧ Bys w' B v' (l ++ enc r) ∧ Below B w w' := by
  obtain ⟨i0, hi, hz0, hz1, hz2⟩ := info_parts info5
  obtain ⟨t, z, hld⟩ := hw.leads
  have hc := cell_of_block hld 3
  simp at hc
  have e0 : IntKind.i64.wrap 2 = 2 := by decide
  have e1 : IntKind.i64.wrap 12 = 12 := by decide
  go_enter Tryd.func54, Tryd.ntmps54
  go_wp2_with (first
    | (go_at_call 63; refine (width_3 _ _ h0 h1).mono ?_; rintro e w' ⟨rfl, rfl⟩))
  go_region_law (refine step_append_lies _ rfl (.tmp 8) (.tmp 19) 61 rfl B 5 i0 (.int .u8 0) 1 1 Tryd.underlying61 hi hz0 hz1 hz2 rfl (by decide) v l.length (l.map fun c => .int .u8 (c.toNat : Int)) rfl ((hown.alloc _).drew) ⟨w.heap.size, 0, none⟩ 1 1 [.int .u8 (224 + (r : Int) / 4096)] rfl rfl (cells_newD _ _ _ _ _ (lead_cells _ _ _ (or224 _ (by omega) (by omega)))) (by simp [Value.oneCell']) (by decide) (by unfold maxLen; omega) (by omega) (by simp; omega) _ rfl ?_; intro g1 cap1 w1 hown1 hgrow1 hat1 hlt1)
  have hb1 := (((Below.refl B w).alloc (by omega) _).drew).grown hgrow1 (by simp; omega) (fun j e => (hown.lt j e).1)
  have hs1 := hb1.size
  clear hat1 hlt1 hgrow1 hc e0 e1
  go_wp2_with fail
  refine (tailByte_any _ _ (by omega) (by omega)).mono ?_
  rintro e w' ⟨rfl, rfl⟩
  go_wp2_with (at_builtin; refine wpList_append_own _ rfl _ _ 61 rfl B 5 i0 (.int .u8 0) 1 1 Tryd.underlying61 hi hz0 hz1 hz2 rfl (by decide) _ _ _ rfl (hown1.alloc _) ⟨w1.heap.size, 0, none⟩ 1 1 [.int .u8 (128 + (r : Int) / 64 % 64)] rfl rfl ?c11 ?c21 ?c31 ?c41 ?c51 ?_; rotate_left 5; intro v2 w2 hown2 hgrow2 _; obtain ⟨g2, cap2, rfl⟩ := ownsRow_succ hown2)
  case c11 => exact cells_new' _ _ _ _ _ rfl
  case c21 => simp [Value.oneCell']
  case c31 => unfold maxLen; omega
  case c41 => omega
  case c51 => simp; omega
  have hb2 := (hb1.alloc (by omega) _).grown hgrow2 (by simp; omega) (fun j e => (hown1.lt j e).1)
  have hs2 := hb2.size
  clear hgrow2
  go_wp2_with fail
  refine (tailByte_any _ _ (by omega) (by omega)).mono ?_
  rintro e w' ⟨rfl, rfl⟩
  go_wp2_with (at_builtin; refine wpList_append_own _ rfl _ _ 61 rfl B 5 i0 (.int .u8 0) 1 1 Tryd.underlying61 hi hz0 hz1 hz2 rfl (by decide) _ _ _ rfl (hown2.alloc _) ⟨w2.heap.size, 0, none⟩ 1 1 [.int .u8 (128 + (r : Int) % 64)] rfl rfl ?c12 ?c22 ?c32 ?c42 ?c52 ?_; rotate_left 5; intro v3 w3 hown3 hgrow3 _; obtain ⟨g3, cap3, rfl⟩ := ownsRow_succ hown3)
  case c12 => exact cells_new' _ _ _ _ _ rfl
  case c22 => simp [Value.oneCell']
  case c32 => unfold maxLen; omega
  case c42 => omega
  case c52 => simp; omega
  have hb3 := (hb2.alloc (by omega) _).grown hgrow3 (by simp; omega) (fun j e => (hown2.lt j e).1)
  have hs3 := hb3.size
  clear hgrow3
  go_ret
  have q : enc r = [UInt8.ofNat (224 + r / 4096), UInt8.ofNat (128 + r / 64 % 64), UInt8.ofNat (128 + r % 64)] := by unfold enc encN; rw [if_neg (by omega), if_neg (by omega), if_pos (by omega)]; rfl
  refine ⟨_, rfl, ?_, hb3⟩
  unfold Bys
  rw [q]
  have q2 : (l ++ [UInt8.ofNat (224 + r / 4096), UInt8.ofNat (128 + r / 64 % 64), UInt8.ofNat (128 + r % 64)]).map (fun c => Value.int .u8 (c.toNat : Int)) = (l.map fun c => Value.int .u8 (c.toNat : Int)) ++ [.int .u8 (224 + (r : Int) / 4096), .int .u8 (128 + (r : Int) / 64 % 64), .int .u8 (128 + (r : Int) % 64)] := by
    rw [List.map_append]; simp only [List.map_cons, List.map_nil]
    rw [on (224 + r / 4096) (by omega), on (128 + r / 64 % 64) (by omega), on (128 + r % 64) (by omega)]
    rfl
  rw [q2, List.length_append]
  simpa [List.append_assoc, Nat.add_assoc] using hown3

set_option maxHeartbeats 4000000 in
theorem append_4 (B : Nat) (r : Nat) (v : Value) (l : List UInt8) (w : World) (hw : Lay w) (hB : B ≤ w.heap.size) (hown : Bys w B v l) (hl : l.length ≤ 70368744177664) (h0 : ¬ (r : Int) < 65536) (h1 : (r : Int) ≤ 1114111) :
    Calls Tryd.prog 54 #[v, .int .i64 r] w fun e w' => ∃ v', e = .returned v' ∧ Bys w' B v' (l ++ enc r) ∧ Below B w w' := by
  obtain ⟨i0, hi, hz0, hz1, hz2⟩ := info_parts info5
  obtain ⟨t, z, hld⟩ := hw.leads
  have hc := cell_of_block hld 4
  simp at hc
  have e0 : IntKind.i64.wrap 3 = 3 := by decide
  have e1 : IntKind.i64.wrap 18 = 18 := by decide
  go_enter Tryd.func54, Tryd.ntmps54
  go_wp2_with (first
    | (go_at_call 63; refine (width_4 _ _ h0).mono ?_; rintro e w' ⟨rfl, rfl⟩))
  go_region_law (refine step_append_lies _ rfl (.tmp 8) (.tmp 19) 61 rfl B 5 i0 (.int .u8 0) 1 1 Tryd.underlying61 hi hz0 hz1 hz2 rfl (by decide) v l.length (l.map fun c => .int .u8 (c.toNat : Int)) rfl ((hown.alloc _).drew) ⟨w.heap.size, 0, none⟩ 1 1 [.int .u8 (240 + (r : Int) / 262144)] rfl rfl (cells_newD _ _ _ _ _ (lead_cells _ _ _ (or240 _ (by omega) (by omega)))) (by simp [Value.oneCell']) (by decide) (by unfold maxLen; omega) (by omega) (by simp; omega) _ rfl ?_; intro g1 cap1 w1 hown1 hgrow1 hat1 hlt1)
  have hb1 := (((Below.refl B w).alloc (by omega) _).drew).grown hgrow1 (by simp; omega) (fun j e => (hown.lt j e).1)
  have hs1 := hb1.size
  clear hat1 hlt1 hgrow1 hc e0 e1
  go_wp2_with fail
  refine (tailByte_any _ _ (by omega) (by omega)).mono ?_
  rintro e w' ⟨rfl, rfl⟩
  go_wp2_with (at_builtin; refine wpList_append_own _ rfl _ _ 61 rfl B 5 i0 (.int .u8 0) 1 1 Tryd.underlying61 hi hz0 hz1 hz2 rfl (by decide) _ _ _ rfl (hown1.alloc _) ⟨w1.heap.size, 0, none⟩ 1 1 [.int .u8 (128 + (r : Int) / 4096 % 64)] rfl rfl ?c11 ?c21 ?c31 ?c41 ?c51 ?_; rotate_left 5; intro v2 w2 hown2 hgrow2 _; obtain ⟨g2, cap2, rfl⟩ := ownsRow_succ hown2)
  case c11 => exact cells_new' _ _ _ _ _ rfl
  case c21 => simp [Value.oneCell']
  case c31 => unfold maxLen; omega
  case c41 => omega
  case c51 => simp; omega
  have hb2 := (hb1.alloc (by omega) _).grown hgrow2 (by simp; omega) (fun j e => (hown1.lt j e).1)
  have hs2 := hb2.size
  clear hgrow2
  go_wp2_with fail
  refine (tailByte_any _ _ (by omega) (by omega)).mono ?_
  rintro e w' ⟨rfl, rfl⟩
  go_wp2_with (at_builtin; refine wpList_append_own _ rfl _ _ 61 rfl B 5 i0 (.int .u8 0) 1 1 Tryd.underlying61 hi hz0 hz1 hz2 rfl (by decide) _ _ _ rfl (hown2.alloc _) ⟨w2.heap.size, 0, none⟩ 1 1 [.int .u8 (128 + (r : Int) / 64 % 64)] rfl rfl ?c12 ?c22 ?c32 ?c42 ?c52 ?_; rotate_left 5; intro v3 w3 hown3 hgrow3 _; obtain ⟨g3, cap3, rfl⟩ := ownsRow_succ hown3)
  case c12 => exact cells_new' _ _ _ _ _ rfl
  case c22 => simp [Value.oneCell']
  case c32 => unfold maxLen; omega
  case c42 => omega
  case c52 => simp; omega
  have hb3 := (hb2.alloc (by omega) _).grown hgrow3 (by simp; omega) (fun j e => (hown2.lt j e).1)
  have hs3 := hb3.size
  clear hgrow3
  go_wp2_with fail
  refine (tailByte_any _ _ (by omega) (by omega)).mono ?_
  rintro e w' ⟨rfl, rfl⟩
  go_wp2_with (at_builtin; refine wpList_append_own _ rfl _ _ 61 rfl B 5 i0 (.int .u8 0) 1 1 Tryd.underlying61 hi hz0 hz1 hz2 rfl (by decide) _ _ _ rfl (hown3.alloc _) ⟨w3.heap.size, 0, none⟩ 1 1 [.int .u8 (128 + (r : Int) % 64)] rfl rfl ?c13 ?c23 ?c33 ?c43 ?c53 ?_; rotate_left 5; intro v4 w4 hown4 hgrow4 _; obtain ⟨g4, cap4, rfl⟩ := ownsRow_succ hown4)
  case c13 => exact cells_new' _ _ _ _ _ rfl
  case c23 => simp [Value.oneCell']
  case c33 => unfold maxLen; omega
  case c43 => omega
  case c53 => simp; omega
  have hb4 := (hb3.alloc (by omega) _).grown hgrow4 (by simp; omega) (fun j e => (hown3.lt j e).1)
  have hs4 := hb4.size
  clear hgrow4
  go_ret
  have q : enc r = [UInt8.ofNat (240 + r / 262144), UInt8.ofNat (128 + r / 4096 % 64), UInt8.ofNat (128 + r / 64 % 64), UInt8.ofNat (128 + r % 64)] := by unfold enc encN; rw [if_neg (by omega), if_neg (by omega), if_neg (by omega)]; rfl
  refine ⟨_, rfl, ?_, hb4⟩
  unfold Bys
  rw [q]
  have q2 : (l ++ [UInt8.ofNat (240 + r / 262144), UInt8.ofNat (128 + r / 4096 % 64), UInt8.ofNat (128 + r / 64 % 64), UInt8.ofNat (128 + r % 64)]).map (fun c => Value.int .u8 (c.toNat : Int)) = (l.map fun c => Value.int .u8 (c.toNat : Int)) ++ [.int .u8 (240 + (r : Int) / 262144), .int .u8 (128 + (r : Int) / 4096 % 64), .int .u8 (128 + (r : Int) / 64 % 64), .int .u8 (128 + (r : Int) % 64)] := by
    rw [List.map_append]; simp only [List.map_cons, List.map_nil]
    rw [on (240 + r / 262144) (by omega), on (128 + r / 4096 % 64) (by omega), on (128 + r / 64 % 64) (by omega), on (128 + r % 64) (by omega)]
    rfl
  rw [q2, List.length_append]
  simpa [List.append_assoc, Nat.add_assoc] using hown4

end Go.Proofs.YtdbampgbbghfkaaDoor.Ru
