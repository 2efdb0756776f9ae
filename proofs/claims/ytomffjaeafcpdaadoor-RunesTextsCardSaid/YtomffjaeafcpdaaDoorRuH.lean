/- FullRune at every bytes; Decode. -/
import Derived.Test.YtomffjaeafcpdaaDoorRuF
import Derived.Test.YtomffjaeafcpdaaDoorShelf
import Derived.Shelf.Unicode.DecodeSlow
namespace Go.Proofs.YtomffjaeafcpdaaDoor
open Go.RowKit

theorem firstT_bd (b : Nat) : Lib.firstT b < 256 ∧ Lib.firstT b / 16 < 16 := by
  rcases firstT_cases b with h | h | h | h | h | h | h | h | h <;> rw [h] <;> decide
theorem full_cells (n b off cap x0 x1 x2 : Nat) (w : World) (hw : Lay w) (hb : b < w.heap.size) (hn : 1 ≤ n) (hx0 : x0 < 256)
    (h0 : w.cell? ⟨b, off, none⟩ = some (.int .u8 x0)) (h1 : 1 < n → w.cell? ⟨b, off + 1, none⟩ = some (.int .u8 x1)) (h2 : 2 < n → w.cell? ⟨b, off + 2, none⟩ = some (.int .u8 x2)) :
    Calls Tryd.prog 30 #[.slice (some ⟨b, off, none⟩) n cap] w fun e w' => e = .returned (.bool (fullT n x0 x1 x2)) ∧ Below w.heap.size w w' := by
  rw [fullT_fB n x0 x1 x2 _ rfl]
  obtain ⟨hX2, _⟩ := firstT_bd x0
  by_cases hge : Lib.firstT x0 % 8 ≤ n
  · rw [fB_t (.inl hge)]
    exact full_ge n b off cap x0 _ w hw rfl hx0 hn hge hX2 h0
  rcases (show n = 1 ∨ n = 2 ∨ n = 3 by
    rcases firstT_cases x0 with h | h | h | h | h | h | h | h | h <;> rw [h] at hge <;> omega) with rfl | rfl | rfl
  · rw [fB_f (by omega)]
    exact full_1 b off cap x0 _ w hw rfl hx0 (by omega) hX2 h0
  · have h1' := h1 (by omega)
    by_cases c1 : x1 < Lib.accLo (Lib.firstT x0 / 16)
    · rw [fB_t (.inr (.inl ⟨by omega, .inl c1⟩))]
      exact full_2l b off cap x0 x1 _ w hw hb rfl hx0 (by omega) hX2 c1 h0 h1'
    by_cases c2 : Lib.accHi (Lib.firstT x0 / 16) < x1
    · rw [fB_t (.inr (.inl ⟨by omega, .inr c2⟩))]
      exact full_2h b off cap x0 x1 _ w hw hb rfl hx0 (by omega) hX2 ⟨c1, c2⟩ h0 h1'
    · rw [fB_f (by omega)]
      exact full_2 b off cap x0 x1 _ w hw hb rfl hx0 (by omega) hX2 ⟨c1, c2⟩ h0 h1'
  · have h1' := h1 (by omega)
    have h2' := h2 (by omega)
    by_cases c1 : x1 < Lib.accLo (Lib.firstT x0 / 16)
    · rw [fB_t (.inr (.inl ⟨by omega, .inl c1⟩))]
      exact full_3l b off cap x0 x1 _ w hw hb rfl hx0 (by omega) hX2 c1 h0 h1'
    by_cases c2 : Lib.accHi (Lib.firstT x0 / 16) < x1
    · rw [fB_t (.inr (.inl ⟨by omega, .inr c2⟩))]
      exact full_3h b off cap x0 x1 _ w hw hb rfl hx0 (by omega) hX2 ⟨c1, c2⟩ h0 h1'
    by_cases c3 : x2 < 128 ∨ 191 < x2
    · rw [fB_t (.inr (.inr ⟨by omega, c3⟩))]
      exact full_3b b off cap x0 x1 x2 _ w hw hb rfl hx0 (by omega) hX2 ⟨c1, c2⟩ h0 h1' h2' (by omega)
    · rw [fB_f (by omega)]
      exact full_3 b off cap x0 x1 x2 _ w hw hb rfl hx0 (by omega) hX2 ⟨c1, c2⟩ h0 h1' h2' (by omega) (by omega)

theorem gb_get (l : List UInt8) (j : Nat) (h : j < l.length) : l[j].toNat = gb l j := by
  simp [gb, List.getElem?_eq_getElem h]
/-- FullRune of bytes in memory. -/
theorem full_any (b off cap : Nat) (l : List UInt8) (w : World) (hw : Lay w) (hb : b < w.heap.size) (hl : l ≠ [])
    (hc : ∀ j (h : j < l.length), w.cell? ⟨b, off + j, none⟩ = some (.int .u8 (l[j].toNat : Int))) :
    Calls Tryd.prog 30 #[.slice (some ⟨b, off, none⟩) l.length cap] w fun e w' => e = .returned (.bool (fullT l.length (gb l 0) (gb l 1) (gb l 2))) ∧ Below w.heap.size w w' := by
  have hp : 0 < l.length := List.length_pos_iff.2 hl
  refine full_cells l.length b off cap _ _ _ w hw hb hp (gb_lt _ _) ?_ (fun h => ?_) (fun h => ?_)
  · have := hc 0 hp; rw [gb_get] at this; exact this
  · have := hc 1 h; rw [gb_get] at this; exact this
  · have := hc 2 h; rw [gb_get] at this; exact this

theorem bget (l : List UInt8) (j : Nat) : ((⟨l.toArray⟩ : ByteArray).get! j).toNat = gb l j := by
  show ((l.toArray)[j]!).toNat = gb l j
  simp [gb, List.getD]
  rfl
theorem decGo (l : List UInt8) (hl : l ≠ []) : Lib.decodeGo ⟨l.toArray⟩ = Lib.decodeN l.length (gb l 0) (gb l 1) (gb l 2) (gb l 3) := by
  have hp : 0 < l.length := List.length_pos_iff.2 hl
  have hs : (⟨l.toArray⟩ : ByteArray).size = l.length := by simp [ByteArray.size]
  unfold Lib.decodeGo
  rw [hs, if_neg (by omega), Lib.decode_at, hs]
  simp only [bget, Nat.sub_zero, Nat.zero_add]
/-- DecodeRune of bytes in memory. -/
theorem decR_any (b off cap : Nat) (l : List UInt8) (w : World) (hw : Lay w) (hl : l ≠ [])
    (hc : ∀ j (h : j < l.length), w.cell? ⟨b, off + j, none⟩ = some (.int .u8 (l[j].toNat : Int))) :
    Calls Tryd.prog 29 #[.slice (some ⟨b, off, none⟩) l.length cap] w fun e w' =>
      e = .returned (.tuple #[.int .i32 (Lib.decodeN l.length (gb l 0) (gb l 1) (gb l 2) (gb l 3)).1, .int .i64 (Lib.decodeN l.length (gb l 0) (gb l 1) (gb l 2) (gb l 3)).2]) ∧ Below w.heap.size w w' := by
  have hs : (⟨l.toArray⟩ : ByteArray).size = l.length := by simp [ByteArray.size]
  have := Tryd.utf8_DecodeRune ⟨l.toArray⟩ b off cap w ⟨hw.first, hw.acc⟩ (fun j hj => by rw [hs] at hj; rw [bget, ← gb_get l j hj]; exact hc j hj)
  rw [decGo l hl, hs] at this
  exact this
theorem dec_ok (l : List UInt8) (h : (dec l).2.2 = 0) : Lib.decodeN l.length (gb l 0) (gb l 1) (gb l 2) (gb l 3) = ((dec l).1, (dec l).2.1) ∧ ((dec l).1 = 65533 → 1 < (dec l).2.1) := by
  unfold dec at h ⊢
  by_cases hl : l = []
  · rw [if_pos hl] at h; simp at h
  rw [if_neg hl] at h ⊢
  exact decN_ok _ _ _ _ _ _ _ (Prod.ext rfl (Prod.ext rfl h))
theorem dec_no (l : List UInt8) (hl : l ≠ []) (h : (dec l).2.2 ≠ 0) : Lib.decodeN l.length (gb l 0) (gb l 1) (gb l 2) (gb l 3) = (65533, 1) ∧
    ((dec l = (0, 0, 6) ∧ fullT l.length (gb l 0) (gb l 1) (gb l 2) = true) ∨ (dec l = (0, 0, 370) ∧ fullT l.length (gb l 0) (gb l 1) (gb l 2) = false)) := by
  have hp : 1 ≤ l.length := List.length_pos_iff.2 hl
  have hd : dec l = decT l.length (gb l 0) (gb l 1) (gb l 2) (gb l 3) := by unfold dec; rw [if_neg hl]
  have hf := full_form l.length (gb l 0) (gb l 1) (gb l 2) (gb l 3) hp (gb_lt _ _) (gb_lt _ _) (gb_lt _ _)
  refine ⟨decN_bad _ _ _ _ _ (by rw [← hd]; exact h), ?_⟩
  rcases dec_err l hl with e | e | ⟨e, _⟩
  · exact absurd e h
  · exact .inl ⟨e, hf.1 (by rw [← hd]; exact e)⟩
  · exact .inr ⟨e, hf.2 (by rw [← hd]; exact e)⟩
end Go.Proofs.YtomffjaeafcpdaaDoor
