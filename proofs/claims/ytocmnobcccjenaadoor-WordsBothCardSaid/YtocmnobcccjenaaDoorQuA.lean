/- appendByte, Quote. -/
import Derived.Test.YtocmnobcccjenaaDoorWaK
import Derived.Lib.AppendStr
import Derived.Deep.RegionLaw
import Derived.Deep.AppendLies
import Derived.RangeFuncRecord
namespace Go.Proofs.YtocmnobcccjenaaDoor
open Go.RowKit

set_option maxRecDepth 100000

def hex8 (n : Nat) : UInt8 := hexL.getD n 0
/-- The form of a byte between quotes. -/
def escF (c : UInt8) : List UInt8 := if pl8 c = true then [c] else if escB c.toNat = true then [92, UInt8.ofNat (escL c.toNat).toNat] else [92, 120, hex8 (c.toNat / 16), hex8 (c.toNat % 16)]
def quoF (l : List UInt8) : List UInt8 := 34 :: (l.flatMap escF ++ [34])
theorem escF_len (c : UInt8) : (escF c).length ≤ 4 := by
  unfold escF; split
  · simp
  · split <;> simp

/-- What stands at the head of a new block. -/
theorem cells_new (w : World) (cs : Array Value) (t : TypeId) (z : Nat × Nat) : ∀ j u, cs.toList[j]? = some u → (w.alloc (.cells cs t z)).cell? ((⟨w.heap.size, 0, none⟩ : Addr).add j) = some u := by
  intro j u h
  have e : (⟨w.heap.size, 0, none⟩ : Addr).add j = ⟨w.heap.size, j, none⟩ := by simp [Addr.add]; intro h; exact h.symm
  rw [e]
  have h2 : (w.alloc (.cells cs t z)).heap[w.heap.size]? = some (.cells cs t z) := World.alloc_heap_new w _
  rw [cell_of_block h2 j]
  simpa using h

set_option maxHeartbeats 4000000 in
theorem appendByte_plain (B : Nat) (c : UInt8) (v : Value) (l : List UInt8) (w : World) (hB : B ≤ w.heap.size) (hown : Bys w B v l) (hl : l.length ≤ 70368744177664) (hp : pl8 c = true) :
    Calls Tryd.prog 31 #[v, .int .u8 c.toNat] w fun e w' => ∃ v', e = .returned v' ∧ Bys w' B v' (l ++ [c]) ∧ Below B w w' := by
  obtain ⟨i0, hi, hz0, hz1, hz2⟩ := info_parts info5
  go_enter Tryd.func31, Tryd.ntmps31
  go_wp2_with (first
    | (go_at_call 32; refine (isPlain_b _ _).mono ?_; rintro e w' ⟨rfl, rfl⟩)
    | (at_builtin; refine wpList_append_own _ rfl _ _ 56 rfl B 5 i0 (.int .u8 0) 1 1 Tryd.underlying56 hi hz0 hz1 hz2 rfl (by decide) _ _ _ rfl (hown.alloc _) ⟨w.heap.size, 0, none⟩ 1 1 [.int .u8 c.toNat] rfl rfl ?c1 ?c2 ?c3 ?c4 ?c5 ?_; rotate_left 5; intro v' w1 hown' hgrow _))
  case c1 => exact cell_one_new _ _ _
  case c2 => simp [Value.oneCell']
  case c3 => unfold maxLen; omega
  case c4 => omega
  case c5 => simp; omega
  go_ret
  exact ⟨_, rfl, by unfold Bys; rw [List.length_append, List.map_append]; exact hown', ((Below.refl B w).alloc (by omega) _).grown hgrow (by simp; omega) (fun j e => (hown.lt j e).1)⟩

theorem escL8 (c : UInt8) : ((UInt8.ofNat (escL c.toNat).toNat).toNat : Int) = escL c.toNat := by
  have key : ∀ c : Fin 256, ((UInt8.ofNat (escL (UInt8.ofNat c.val).toNat).toNat).toNat : Int) = escL (UInt8.ofNat c.val).toNat := by decide +kernel
  have := key ⟨c.toNat, c.toNat_lt⟩
  simp only [UInt8.ofNat_toNat] at this
  exact this

set_option maxHeartbeats 4000000 in
theorem appendByte_short (B : Nat) (c : UInt8) (v : Value) (l : List UInt8) (w : World) (hw : Lay w) (hB : B ≤ w.heap.size) (hown : Bys w B v l) (hl : l.length ≤ 70368744177664) (hp : pl8 c = false) (he : escB c.toNat = true) :
    Calls Tryd.prog 31 #[v, .int .u8 c.toNat] w fun e w' => ∃ v', e = .returned v' ∧ Bys w' B v' (l ++ [92, UInt8.ofNat (escL c.toNat).toNat]) ∧ Below B w w' := by
  obtain ⟨i0, hi, hz0, hz1, hz2⟩ := info_parts info5
  go_enter Tryd.func31, Tryd.ntmps31
  go_wp2_with (first
    | (go_at_call 32; refine (isPlain_b _ _).mono ?_; rintro e w' ⟨rfl, rfl⟩)
    | (go_at_call 48; refine (letterOf_any _ _ hw).mono ?_; rintro e w2 ⟨rfl, hb2⟩; have hown2 := own_below hown hb2; have hsz2 := hb2.size)
    | (at_builtin; refine wpList_append_own _ rfl _ _ 56 rfl B 5 i0 (.int .u8 0) 1 1 Tryd.underlying56 hi hz0 hz1 hz2 rfl (by decide) _ _ _ rfl (hown2.alloc _) ⟨w2.heap.size, 0, none⟩ 2 2 [.int .u8 92, .int .u8 (escL c.toNat)] rfl rfl ?c1 ?c2 ?c3 ?c4 ?c5 ?_; rotate_left 5; intro v' w1 hown' hgrow _))
  case c1 => exact cells_new w2 #[.int .u8 92, .int .u8 (escL c.toNat)] _ _
  case c2 => simp [Value.oneCell']
  case c3 => unfold maxLen; omega
  case c4 => omega
  case c5 => simp; omega
  go_ret
  exact ⟨_, rfl, by unfold Bys; rw [List.length_append, List.map_append, List.map_cons, List.map_cons, List.map_nil, escL8 c]; exact hown', (((hb2.mono hB).alloc (by omega) _)).grown hgrow (by simp; omega) (fun j e => (hown2.lt j e).1)⟩


theorem cells_new' (w : World) (cs : Array Value) (news : List Value) (t : TypeId) (z : Nat × Nat) (h : cs.toList = news) : ∀ j u, news[j]? = some u → (w.alloc (.cells cs t z)).cell? ((⟨w.heap.size, 0, none⟩ : Addr).add j) = some u := by
  subst h; exact cells_new w cs t z
theorem cells_newD (w : World) (cs : Array Value) (news : List Value) (t : TypeId) (z : Nat × Nat) (h : cs.toList = news) : ∀ j u, news[j]? = some u → (w.alloc (.cells cs t z)).drew.cell? ((⟨w.heap.size, 0, none⟩ : Addr).add j) = some u :=
  cells_new' w cs news t z h
theorem hex16 (n : Nat) (h : n < 16) : (⟨#[48, 49, 50, 51, 52, 53, 54, 55, 56, 57, 97, 98, 99, 100, 101, 102]⟩ : ByteArray)[n]'h = hex8 n := by
  have key : ∀ n : Fin 16, (⟨#[48, 49, 50, 51, 52, 53, 54, 55, 56, 57, 97, 98, 99, 100, 101, 102]⟩ : ByteArray)[n.val]'n.isLt = hex8 n.val := by decide +kernel
  exact key ⟨n, h⟩
theorem hexS_at {c : UInt8} {x y : UInt8} (hx : x = hex8 (c.toNat / 16)) (hy : y = hex8 (c.toNat % 16)) {h1 : ((c.toNat : Int) / 16).toNat < 16} {h2 : ((c.toNat : Int) % 16).toNat < 16} :
    (#[.int .u8 92, .int .u8 120, .int .u8 ((⟨#[48, 49, 50, 51, 52, 53, 54, 55, 56, 57, 97, 98, 99, 100, 101, 102]⟩ : ByteArray)[((c.toNat : Int) / 16).toNat]'h1).toNat, .int .u8 ((⟨#[48, 49, 50, 51, 52, 53, 54, 55, 56, 57, 97, 98, 99, 100, 101, 102]⟩ : ByteArray)[((c.toNat : Int) % 16).toNat]'h2).toNat] : Array Value).toList = [.int .u8 92, .int .u8 120, .int .u8 x.toNat, .int .u8 y.toNat] := by
  rw [hex16 _ h1, hex16 _ h2, hx, hy]
  rfl
theorem and15 (c : UInt8) : bits BinOp.and IntKind.u8 (c.toNat : Int) 15 = (c.toNat : Int) % 16 := by
  have key : ∀ c : Fin 256, bits BinOp.and IntKind.u8 ((UInt8.ofNat c.val).toNat : Int) 15 = ((UInt8.ofNat c.val).toNat : Int) % 16 := by decide +kernel
  have := key ⟨c.toNat, c.toNat_lt⟩
  simpa only [UInt8.ofNat_toNat] using this

set_option maxHeartbeats 4000000 in
theorem appendByte_hex (B : Nat) (c : UInt8) (v : Value) (l : List UInt8) (w : World) (hw : Lay w) (hB : B ≤ w.heap.size) (hown : Bys w B v l) (hl : l.length ≤ 70368744177664) (hp : pl8 c = false) (he : escB c.toNat = false) :
    Calls Tryd.prog 31 #[v, .int .u8 c.toNat] w fun e w' => ∃ v', e = .returned v' ∧ Bys w' B v' (l ++ [92, 120, hex8 (c.toNat / 16), hex8 (c.toNat % 16)]) ∧ Below B w w' := by
  obtain ⟨i0, hi, hz0, hz1, hz2⟩ := info_parts info5
  go_enter Tryd.func31, Tryd.ntmps31
  go_wp2_with (first
    | (go_at_call 32; refine (isPlain_b _ _).mono ?_; rintro e w' ⟨rfl, rfl⟩)
    | (go_at_call 48; refine (letterOf_any _ _ hw).mono ?_; rintro e w2 ⟨rfl, hb2⟩; have hown2 := own_below hown hb2; have hsz2 := hb2.size))
  have hu := u8_lt c
  have a0 : (0 : Int) ≤ (c.toNat : Int) / 16 := by omega
  have a1 : (c.toNat : Int) / 16 < 16 := by omega
  have b0 : (0 : Int) ≤ (c.toNat : Int) % 16 := by omega
  have b1 : (c.toNat : Int) % 16 < 16 := by omega
  have hand := and15 c
  obtain ⟨x, hx⟩ : ∃ x : UInt8, x = hex8 (c.toNat / 16) := ⟨_, rfl⟩
  obtain ⟨y, hy⟩ : ∃ y : UInt8, y = hex8 (c.toNat % 16) := ⟨_, rfl⟩
  go_region_law (refine step_append_lies _ rfl (.tmp 23) (.tmp 30) 56 rfl B 5 i0 (.int .u8 0) 1 1 Tryd.underlying56 hi hz0 hz1 hz2 rfl (by decide) v l.length (l.map fun c => .int .u8 (c.toNat : Int)) rfl ((hown2.alloc _).drew) ⟨w2.heap.size, 0, none⟩ 4 4 [.int .u8 92, .int .u8 120, .int .u8 x.toNat, .int .u8 y.toNat] rfl rfl (cells_newD _ _ _ _ _ (hexS_at hx hy)) (by simp [Value.oneCell']) (by decide) (by unfold maxLen; omega) (by omega) (by simp; omega) _ rfl ?_; intro g cap w1 hown' hgrow hat hlt)
  all_goals go_wp2_with fail
  all_goals go_ret
  all_goals exact ⟨_, rfl, by rw [← hx, ← hy]; unfold Bys; rw [List.length_append, List.map_append]; exact hown', (((hb2.mono hB).alloc (by omega) _).drew).grown hgrow (by simp; omega) (fun j e => (hown2.lt j e).1)⟩

theorem appendByte_own (B : Nat) (c : UInt8) (v : Value) (l : List UInt8) (w : World) (hw : Lay w) (hB : B ≤ w.heap.size) (hown : Bys w B v l) (hl : l.length ≤ 70368744177664) :
    Calls Tryd.prog 31 #[v, .int .u8 c.toNat] w fun e w' => ∃ v', e = .returned v' ∧ Bys w' B v' (l ++ escF c) ∧ Below B w w' := by
  unfold escF
  cases hp : pl8 c with
  | true => rw [if_pos rfl]; exact appendByte_plain B c v l w hB hown hl hp
  | false =>
    rw [if_neg (by simp)]
    cases he : escB c.toNat with
    | true => rw [if_pos rfl]; exact appendByte_short B c v l w hw hB hown hl hp he
    | false => rw [if_neg (by simp)]; exact appendByte_hex B c v l w hw hB hown hl hp he
end Go.Proofs.YtocmnobcccjenaaDoor
