/- ContainsRune of a string of bytes below 128. -/
import Derived.Test.YtomffjaeafcpdaaDoorRuH
import Derived.Laws.Runes
import Derived.Laws.RangeString
import Derived.Lib.OthersKept
import Derived.Lib.IndexLaws
import Derived.Deep.QuietTactic
import Derived.BigQuiet
import Derived.Laws.BitsLemmas
namespace Go.Proofs.YtomffjaeafcpdaaDoor
open Go.RowKit

theorem valid_isR (r : Int) : Lib.validRune r = isR r := rfl
set_option maxRecDepth 100000 in
set_option maxHeartbeats 4000000 in
theorem indexRune_far (s : ByteArray) (hs : ∀ b ∈ s.data.toList, b.toNat < 128) (r : Int) (h128 : 128 ≤ r) (hr : isR r = true) (hne : r ≠ 65533) (w : World) :
    Calls Tryd.prog 45 #[.string s, .int .i32 r] w fun e w' => e = .returned (.int .i64 (-1)) ∧ Below w.heap.size w w' := by
  have hv : Utf8.valid r = true := by rw [validRune_eq]; exact hr
  obtain ⟨f1, f2, f3⟩ := encode_facts r hv h128
  obtain ⟨rs, hrs⟩ : ∃ rs, Utf8.encode r = rs := ⟨_, rfl⟩
  rw [hrs] at f1 f2 f3
  have hlast := f3 (by omega)
  obtain ⟨m, hm⟩ : ∃ m, rs.size - 1 = m := ⟨_, rfl⟩
  have hmr : m < rs.size := by omega
  have hm4 : m ≤ 3 := by omega
  have hl2 : 128 ≤ rs[m].toNat := by simp only [← hm]; exact hlast
  have hmi : (rs.size : Int) - 1 = (m : Int) := by omega
  obtain ⟨c, hc⟩ : ∃ c, rs[m] = c := ⟨_, rfl⟩
  rw [hc] at hl2
  have q1 : ¬ r < 128 := by omega
  have q2 : (r == 65533) = false := by rw [beq_eq_false_iff_ne]; exact hne
  have hvr : Lib.validRune r = true := by rw [valid_isR]; exact hr
  have hVal := Lib.hid (Tryd.utf8_ValidRune r w)
  rw [hvr] at hVal
  have hIB : ∀ w, Calls Tryd.prog 47 #[.string (s.extract (m + 1) s.size), .int .u8 (c.toNat : Int)] w fun e w' => e = .returned (.int .i64 (-1)) ∧ w' = w := by
    intro w
    have h := Tryd.strings_IndexByte (s.extract (m + 1) s.size) (c.toNat : Int) w
    have e : Lib.indexByte (s.extract (m + 1) s.size).data.toList (c.toNat : Int).toNat.toUInt8 = -1 := by
      have hcc : (c.toNat : Int).toNat.toUInt8 = c := by simp
      rw [hcc]
      have key : ∀ l : List UInt8, (∀ b ∈ l, b.toNat < 128) → Lib.indexByte l c = -1 := by
        intro l
        induction l with
        | nil => intro _; rfl
        | cons b l ih =>
          intro h
          have hb := h b (by simp)
          have hne : (b == c) = false := by rw [beq_eq_false_iff_ne]; intro e; rw [e] at hb; omega
          simp [Lib.indexByte, hne, ih (fun x hx => h x (by simp [hx]))]
      exact key _ (fun b hb => hs b (mem_extract hb))
    rw [e] at h
    exact h
  have HIB := Lib.hid hIB
  clear hvr hv f3 hne hm f1 f2 hlast hIB hr
  go_enter Tryd.func45, Tryd.ntmps45
  go_wp2_with (go_at_call 48; refine hVal.out.mono ?_; rintro e w' ⟨rfl, rfl⟩)
  go_step3
  go_wp2
  go_loop [9, 10] (fun i n => i = .int .i64 (m : Int) ∧ n = .int .i64 0) (fun _ _ => 0)
  case atStart => exact ⟨rfl, rfl⟩
  case round =>
    obtain ⟨rfl, rfl⟩ := hrel
    by_cases hlt : m < s.size
    · have hcs := hs (s[m]) (by rw [ByteArray.getElem_eq_getElem_data]; exact Array.getElem_mem_toList ..)
      obtain ⟨d, hd⟩ : ∃ d, s[m] = d := ⟨_, rfl⟩
      rw [hd] at hcs
      have hcne : ((d.toNat : Int) != (c.toNat : Int)) = true := by rw [bne_iff_ne]; omega
      clear hs
      go_wp2
      go_step3
      go_wp2
      go_quiet (fail)
      go_wp2
      have hB := below_drewN (Below.refl w'.heap.size w') nq
      generalize w'.drewN nq = W1 at hB ⊢
      have e1 : IntKind.i64.wrap ((m : Int) + 1) = (m : Int) + 1 := by rw [IntKind.wrap_i64]; omega
      have e2 : (0 : Int) ≤ (m : Int) + 1 := by omega
      have e3 : ((m : Int) + 1).toNat = m + 1 := by omega
      have e4 : m + 1 ≤ s.size := by omega
      go_quiet ((go_at_call 47; exact Calls.quiet_of_same (HIB.out _)))
      clear e1 e2 e3
      go_wp2
      rw [Exit.noGoto_ret]
      go_wp2
      rw [Exit.noGoto_ret]
      go_wp2
      go_ret
      exact ⟨rfl, below_drewN hB _⟩
    · clear hs
      go_wp2
      go_ret
      exact ⟨rfl, Below.refl _ _⟩

set_option maxRecDepth 100000 in
set_option maxHeartbeats 4000000 in
theorem indexRune_err (s : ByteArray) (hs : ∀ i (h : i < s.size), (s[i]'h).toNat < 128) (w : World) :
    Calls Tryd.prog 45 #[.string s, .int .i32 65533] w fun e w' => e = .returned (.int .i64 (-1)) ∧ Below w.heap.size w w' := by
  have hk0 : (w.iter s 0).heap[w.heap.size]? = some (.stringIter s 0) := World.iter_heap w s 0
  have hb0 : Below w.heap.size w (w.iter s 0) := (Below.refl _ w).alloc (Nat.le_refl _) _
  go_enter Tryd.func45, Tryd.ntmps45
  go_wp2
  go_loopw [5, 6] (fun _ _ wr => ∃ pos : Nat, pos ≤ s.size ∧ wr.heap[w.heap.size]? = some (.stringIter s pos) ∧ Below w.heap.size w wr)
    (fun _ _ wr => s.size - wr.iterPos w.heap.size)
  case atStart => exact ⟨0, Nat.zero_le _, hk0, hb0⟩
  case round =>
    obtain ⟨pos, hps, hk, hnx⟩ := hrel
    clear hk0 hb0
    by_cases hp : pos < s.size
    · have h128 := hs pos hp
      have hnext : ∀ ty, (Instr.next (.pointer (some ⟨w.heap.size, 0, none⟩)) true ty).run Tryd.prog wr = _ := fun ty => Lib.run_next_ascii_at wr w.heap.size s pos ty hk hp h128
      have hk1 := Lib.iterAt_heap wr w.heap.size s pos (pos + 1) hk
      have hnx1 : Below w.heap.size w (wr.iterAt w.heap.size s (pos + 1)) := Lib.below_iterAt hnx (by omega) s (pos + 1)
      have hmu : wr.iterPos w.heap.size = pos := by simp [World.iterPos, hk]
      have hne : ((s[pos].toNat : Int) == 65533) = false := by rw [beq_eq_false_iff_ne]; omega
      generalize wr.iterAt w.heap.size s (pos + 1) = W1 at hnext hk1 hnx1
      clear hs
      go_wp2
      go_roundw
      case rel => exact ⟨pos + 1, by omega, hk1, hnx1⟩
      case measure =>
        have hmu2 : W1.iterPos w.heap.size = pos + 1 := by simp [World.iterPos, hk1]
        rw [hmu, hmu2]
        omega
    · have hnext : ∀ ty, (Instr.next (.pointer (some ⟨w.heap.size, 0, none⟩)) true ty).run Tryd.prog wr = _ := fun ty => Lib.run_next_end_at wr w.heap.size s pos ty hk hp
      clear hs
      go_wp2
      go_ret
      exact ⟨rfl, hnx⟩

theorem ascii_mem (l : List UInt8) (h : ∀ b ∈ l, b.toNat < 128) : (∀ b ∈ (⟨l.toArray⟩ : ByteArray).data.toList, b.toNat < 128) ∧ (∀ i (h : i < (⟨l.toArray⟩ : ByteArray).size), ((⟨l.toArray⟩ : ByteArray)[i]'h).toNat < 128) := by
  refine ⟨by simpa using h, fun i hi => ?_⟩
  have hi' : i < l.length := by simpa [ByteArray.size] using hi
  have : (⟨l.toArray⟩ : ByteArray)[i]'hi = l[i] := by simp [ByteArray.getElem_eq_getElem_data]
  rw [this]
  exact h _ (List.getElem_mem _)
set_option maxHeartbeats 400000 in
theorem contains_far (l : List UInt8) (h : ∀ b ∈ l, b.toNat < 128) (r : Int) (h128 : 128 ≤ r) (hr : isR r = true) (w : World) :
    Calls Tryd.prog 36 #[.string ⟨l.toArray⟩, .int .i32 r] w fun e w' => e = .returned (.bool false) ∧ Below w.heap.size w w' := by
  obtain ⟨a1, a2⟩ := ascii_mem l h
  have HI : Hid (Calls Tryd.prog 45 #[.string ⟨l.toArray⟩, .int .i32 r] w fun e w' => e = .returned (.int .i64 (-1)) ∧ Below w.heap.size w w') := by
    unfold Hid
    by_cases e : r = 65533
    · subst e; exact indexRune_err _ a2 w
    · exact indexRune_far _ a1 r h128 hr e w
  clear a1 a2 h
  go_enter Tryd.func36, Tryd.ntmps36
  go_wp2_with (go_at_call 45; refine HI.out.mono ?_; rintro e w' ⟨rfl, hb⟩)
  go_ret
  exact ⟨rfl, hb⟩
theorem indexByte_any (l : List UInt8) (c : UInt8) : decide (0 ≤ Lib.indexByte l c) = l.any (· == c) := by
  induction l with
  | nil => rfl
  | cons b l ih =>
    rw [List.any_cons, ← ih]
    have hg := Lib.indexByte_ge l c
    simp only [Lib.indexByte]
    by_cases h : (b == c) = true
    · simp [h]
    · have h : (b == c) = false := by simpa using h
      simp only [h, Bool.false_eq_true, if_false, Bool.false_or]
      by_cases h2 : Lib.indexByte l c = -1
      · simp [h2]
      · have h3 : (Lib.indexByte l c == -1) = false := by rw [beq_eq_false_iff_ne]; exact h2
        simp only [h3, Bool.false_eq_true, if_false]
        rw [decide_eq_decide]; omega
/-- Whether a rune is one of some bytes. -/
def hasB (l : List UInt8) (r : Int) : Bool := l.any fun c => decide ((c.toNat : Int) = r)
theorem contains_any (l : List UInt8) (h : ∀ b ∈ l, b.toNat < 128) (r : Int) (hr : isR r = true) (w : World) :
    Calls Tryd.prog 36 #[.string ⟨l.toArray⟩, .int .i32 r] w fun e w' => e = .returned (.bool (hasB l r)) ∧ Below w.heap.size w w' := by
  by_cases h128 : 128 ≤ r
  · have : hasB l r = false := by
      unfold hasB; rw [List.any_eq_false]
      intro c hc
      have := h c hc
      simp; omega
    rw [this]
    exact contains_far l h r h128 hr w
  · have h0 : 0 ≤ r := by simp [isR] at hr; omega
    refine (Tryd.strings_ContainsRune_ascii ⟨l.toArray⟩ r w h0 (by omega)).mono ?_
    rintro e w' ⟨rfl, rfl⟩
    refine ⟨?_, Below.refl _ _⟩
    rw [indexByte_any]
    unfold hasB
    have : (l.any fun c => decide ((c.toNat : Int) = r)) = l.any (· == r.toNat.toUInt8) := by
      congr 1
      funext c
      rw [Bool.eq_iff_iff]; simp only [decide_eq_true_eq, beq_iff_eq]
      constructor
      · intro e; rw [← e]; simp
      · intro e; rw [e]; simp; omega
    rw [this]
end Go.Proofs.YtomffjaeafcpdaaDoor
