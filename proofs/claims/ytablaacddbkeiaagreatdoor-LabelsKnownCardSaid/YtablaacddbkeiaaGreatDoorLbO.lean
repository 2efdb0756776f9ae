/- The reference: Sort, Down, Up. -/
import Derived.Test.YtablaacddbkeiaaGreatDoorLbN
namespace Go.Proofs.YtablaacddbkeiaaGreatDoor
open Go.RowKit

theorem lck_one (ns : List ByteArray) (up : List UInt8) (a : Int) : (lck ns up [a]).2 = cl1 ns up a := by
  cases e0 : ((ck ns up).2 != 0) with
  | true => rw [lck_A e0, cl1_A e0]
  | false =>
    rw [lck_C e0 (by simp)]
    cases e1 : isL ns.length a with
    | true =>
      rw [cl1_B e0 e1, lbV_no]
      unfold lbF
      refine List.find?_eq_none.2 fun i hi => ?_
      rw [List.mem_range] at hi
      rw [noL_get hi]
      have : ([a] : List Int)[i] = a := by simp
      rw [this, e1]; decide
    | false =>
      rw [cl1_C e0 e1, lbV_at (i := 0)]
      unfold lbF
      exact find_at (k := 0) rfl (by rw [noL_get (by simp)]; show (!isL ns.length a) = true; rw [e1]; rfl) (by simp)
theorem rd_one (W : World) (a : Int) : RdI (W.alloc (.cells #[.int .i64 a] 3)).heap.size (W.alloc (.cells #[.int .i64 a] 3)) (.slice (some ⟨W.heap.size, 0, none⟩) 1 1) [a] := rd_new vi W [a] 3 (0, 0) (by simp)
theorem rcheck_one (W : World) (n : Nat) (hn : W.heap.size = n) (v : Value) (ns : List ByteArray) (up : List UInt8) (a : Int) (hv : RdL W.heap.size W v ns up) : Calls Tryz.prog 25 #[v, .slice (some ⟨n, 0, none⟩) 1 1] (W.alloc (.cells #[.int .i64 a] 3)) fun e w' => (∃ i, e = .returned (.tuple #[.int .i64 i, .int .i64 (cl1 ns up a)])) ∧ Below W.heap.size W w' := by
  subst hn
  have h := rcheck4_any v _ ns up [a] _ (hv.al _) (rd_one W a)
  exact h.mono fun e w' ⟨he, hb⟩ => ⟨⟨(lck ns up [a]).1, by rw [he, lck_one]⟩, bel2 hb⟩

theorem rcheck4_ok (v u : Value) (ns : List ByteArray) (up : List UInt8) (ls : List Nat) (w : World) (hv : RdL w.heap.size w v ns up) (hz : RdN w.heap.size w u ls) (hg : GL ns up ls) :
    Calls Tryz.prog 25 #[v, u] w fun e w' => e = .returned (.tuple #[.int .i64 0, .int .i64 0]) ∧ Below w.heap.size w w' := by
  have h := rcheck4_any v u ns up _ w hv (rd_int hz)
  rw [hg.lck] at h
  exact h

set_option maxRecDepth 100000 in
set_option maxHeartbeats 1000000 in
theorem rshow_bad (v u : Value) (ns : List ByteArray) (up : List UInt8) (zs : List Int) (w : World) (hv : RdL w.heap.size w v ns up) (hz : RdI w.heap.size w u zs) (hk : ((lck ns up zs).2 != 0) = true) :
    Calls Tryz.prog 8 #[v, u] w fun e w' => e = .returned (.tuple #[.string ByteArray.empty, .int .i64 (lck ns up zs).2]) ∧ Below w.heap.size w w' := by
  have HL := Lib.hid hv
  obtain ⟨⟨vn, vu, rfl, hS, hB⟩, hsz⟩ := hv
  obtain ⟨q1, cap, rfl, hc, hc2, h⟩ := hS
  obtain ⟨q, cap', rfl, hc', hc2', h'⟩ := hB
  clear h h' hsz
  have HZ := Lib.hid hz
  obtain ⟨a, c, rfl, hl, hl2, h⟩ := hz
  clear h
  have HI := Lib.hid (Bx.new HL.out)
  go_enter Tryz.func8, Tryz.ntmps8
  go_wp2_with (go_at_call 25; refine (rcheck4_any _ _ ns up zs _ HI.out.rd (HZ.out.next HI.out.bel)).mono ?_; rintro e w' ⟨rfl, hbn⟩; have HI2 := Lib.hid (HI.out.next hbn); clear HI hbn; have HI := HI2; clear HI2)
  go_ret2
  exact ⟨rfl, HI.out.bel⟩

/-! Down and Up. -/
def dnL (p : Nat → Bool) (k : Nat) : List Nat := (List.range k).filter p
theorem dnL_yes {p : Nat → Bool} {k : Nat} (h : p k = true) : dnL p (k + 1) = dnL p k ++ [k] := by
  unfold dnL; rw [List.range_succ, List.filter_append]; simp [h]
theorem dnL_no {p : Nat → Bool} {k : Nat} (h : p k = false) : dnL p (k + 1) = dnL p k := by
  unfold dnL; rw [List.range_succ, List.filter_append]; simp [h]
theorem dnL_len (p : Nat → Bool) (k : Nat) : (dnL p k).length ≤ k := by
  have := List.length_filter_le p (List.range k)
  rwa [List.length_range] at this
theorem dnL_srt (up : List UInt8) (p : Nat → Bool) : srt up (fun b => decide (b ∈ dnL p up.length)) = srt up p :=
  srt_congr up fun a ha => by
    unfold dnL
    rw [Bool.eq_iff_iff, decide_eq_true_iff, List.mem_filter, List.mem_range]
    exact ⟨fun h => h.2, fun h => ⟨ha, h⟩⟩
theorem soP_congr {up : List UInt8} {p q : Nat → Bool} {w : World} (h : srt up p = srt up q) {e : Ending} {w' : World} (hs : SoP up p w e w') : SoP up q w e w' := by
  unfold SoP at *; rw [← h]; exact hs

end Go.Proofs.YtablaacddbkeiaaGreatDoor
