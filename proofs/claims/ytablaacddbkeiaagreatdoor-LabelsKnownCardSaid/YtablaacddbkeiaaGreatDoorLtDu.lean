/- Dual of the reference. -/
import Derived.Test.YtablaacddbkeiaaGreatDoorLtCo
namespace Go.Proofs.YtablaacddbkeiaaGreatDoor
open Go.RowKit

theorem dnU_get {up : List UInt8} {a : Nat} (ha : a < up.length) : (dnU up)[a]'(by rw [dnU_len]; exact ha) = UInt8.ofNat (dn1 up a up.length) := by
  unfold dnU; simp
theorem dnU_take {up : List UInt8} {a : Nat} (ha : a < up.length) : (dnU up).take (a + 1) = (dnU up).take a ++ [UInt8.ofNat (dn1 up a up.length)] := by
  rw [List.take_succ_eq_append_getElem (by rw [dnU_len]; exact ha), dnU_get ha]
theorem vb_nat {n : Nat} (h : n < 256) : vb (UInt8.ofNat n) = .int .u8 (n : Int) := by
  unfold vb; rw [UInt8.toNat_ofNat', Nat.mod_eq_of_lt h]
theorem ownsRow_slice {w : World} {base : Nat} {e : TypeId} {size : Nat} {v : Value} {n : Nat} {xs : List Value} (h : w.ownsRow base e size v n xs) : ∃ a n' c, v = .slice a n' c := by
  rcases h.2 with ⟨hv, _⟩ | ⟨g, cap, cur, hv, _⟩
  · exact ⟨_, _, _, hv⟩
  · exact ⟨_, _, _, hv⟩
theorem own_ne {w : World} {base b : Nat} {e : TypeId} {size : Nat} {v : Value} {n : Nat} {xs : List Value} (h : w.ownsRow base e size v n xs) (hb : b < base) : v.ownBlock ≠ some b := by
  intro e
  have := (World.ownsRow.lt h b e).1
  omega
theorem shl1 (b : Nat) (h : b < 8) : ((2 : Int) ^ b % 256) * 2 % 256 = 2 ^ (b + 1) % 256 := by
  have key : ∀ i : Fin 8, ((2 : Int) ^ i.val % 256) * 2 % 256 = 2 ^ (i.val + 1) % 256 := by decide +kernel
  exact key ⟨b, h⟩

/-- While the lattice the other way is built: its box D holds the new names nv and the row V of the numbers L so far. -/
structure Du (w : World) (vn vu nv : Value) (D : Nat) (ns : List ByteArray) (up L : List UInt8) (V : Value) (wr : World) : Prop where
  bx : Bx w vn vu ns up wr
  blk : wr.heap[D]? = some (.cells #[nv, V] 25 (0, 0))
  nm : wr.ownsRow (w.heap.size + 2) 9 1 nv ns.length (ns.map vs)
  row : wr.ownsRow (D + 1) 5 1 V L.length (L.map vb)
  hB : D + 1 ≤ wr.heap.size
  hD : w.heap.size + 2 ≤ D
  rb : wr.heap[w.heap.size + 1]? = some (.cells #[Value.slice none 0 0, Value.slice none 0 0] 25 (0, 0))
theorem own_set2 {w : World} {base : Nat} {e : TypeId} {size : Nat} {v : Value} {n : Nat} {xs : List Value} (h : w.ownsRow base e size v n xs) {a : Addr} (ha : v.ownBlock ≠ some a.block) (x : Value) : (w.setCell a x).ownsRow base e size v n xs := by
  obtain ⟨h1, h2⟩ := h
  refine ⟨h1, ?_⟩
  rcases h2 with h2 | ⟨g, cap, cur, rfl, hg, hh, r⟩
  · exact .inl h2
  · refine .inr ⟨g, cap, cur, rfl, hg, ?_, r⟩
    have : a.block ≠ g := fun e => ha (by rw [e]; rfl)
    simp [World.setCell, Array.getElem?_modify, this, hh]
theorem Du.next {w : World} {vn vu nv V : Value} {D : Nat} {ns : List ByteArray} {up L : List UInt8} {wr w' : World} (h : Du w vn vu nv D ns up L V wr) (hb : Below wr.heap.size wr w') : Du w vn vu nv D ns up L V w' where
  bx := h.bx.next hb
  blk := (hb.block _ (by have := h.hB; omega)).trans h.blk
  nm := own_below h.nm hb
  row := own_below h.row hb
  hB := Nat.le_trans h.hB hb.size
  hD := h.hD
  rb := (hb.block _ (by have := h.hB; have := h.hD; omega)).trans h.rb
theorem Du.grow {w : World} {vn vu nv V V' : Value} {D g : Nat} {ns : List ByteArray} {up L : List UInt8} {wr w' : World} {O : Obj} {x : UInt8} (h : Du w vn vu nv D ns up L V wr) (hl : RdL w.heap.size w (.agg #[vn, vu]) ns up) (hn : nv.ownBlock = some g) (hgD : g < D)
    (hown : w'.ownsRow (D + 1) 5 1 V' (L.length + 1) (L.map vb ++ [vb x])) (hg : (wr.alloc O).grownBy w' V.ownBlock) : Du w vn vu nv D ns up (L ++ [x]) V' (w'.setCell ⟨D, 1, none⟩ V') := by
  have hB := h.hB
  have hD := h.hD
  have hb1 : Below (D + 1) wr w' := ((Below.refl _ wr).alloc hB O).grown hg (by simp; omega) (fun j e => (World.ownsRow.lt h.row j e).1)
  have hb : Below D wr (w'.setCell ⟨D, 1, none⟩ V') := (hb1.mono (B' := D) (Nat.le_succ _)).setCell (p := ⟨D, 1, none⟩) (Nat.le_refl _) _
  refine ⟨bx_up h.bx (hb.mono (by omega)) hl, ?_, own_set2 (World.ownsRow.kept (World.ownsRow.alloc h.nm O) hg (.inr ?_)) ?_ _, ?_, Nat.le_trans hB hb.size, hD, (hb.block _ (by omega)).trans h.rb⟩
  · have hk := (hb1.block D (by omega)).trans h.blk
    simp [World.setCell, Array.getElem?_modify, hk]
  · rw [hn]; exact fun e => own_ne h.row (Nat.lt_succ_of_lt hgD) e.symm
  · rw [hn]; intro e; injection e with e; exact absurd e (Nat.ne_of_lt hgD)
  · rw [List.length_append, List.map_append]
    exact own_set hown (a := ⟨D, 1, none⟩) (Nat.lt_succ_self D) _

theorem ret_u8 {x y : Int} (h : x = y) : Value.int .u8 x = .int .u8 y := by rw [h]

end Go.Proofs.YtablaacddbkeiaaGreatDoor
