/- arrange, sorted. -/
import Derived.Test.YtablaacddbkeiaaGreatDoorLbC
namespace Go.Proofs.YtablaacddbkeiaaGreatDoor
open Go.RowKit

set_option maxRecDepth 100000 in
set_option maxHeartbeats 2000000 in
theorem ins_none (p : Option Addr) (cap : Nat) (fv : Value) (w : World) :
    Calls Tryz.prog 103 #[.slice p 0 cap, .int .i64 0, .int .i64 0, fv] w fun e w' => e = .returned (.tuple #[]) ∧ w = w' := by
  go_enter Tryz.func103, Tryz.ntmps103
  go_wp2
  refine wp_loop_rounds 1 ?_
  rw [rounds_succ]
  go_wp2
  go_end0
  exact ⟨rfl, rfl⟩
set_option maxRecDepth 100000 in
set_option maxHeartbeats 2000000 in
theorem pdq_none (p : Option Addr) (cap : Nat) (lim : Int) (fv : Value) (w : World) :
    Calls Tryz.prog 98 #[.slice p 0 cap, .int .i64 0, .int .i64 0, .int .i64 lim, fv] w fun e w' => e = .returned (.tuple #[]) ∧ w = w' := by
  go_enter Tryz.func98, Tryz.ntmps98
  go_wp2
  refine wp_loop_rounds 1 ?_
  rw [rounds_succ]
  go_wp2_with (go_at_call 103; refine (ins_none _ _ _ _).mono ?_; rintro e w' ⟨rfl, rfl⟩)
  (try simp only [Exit.inBlock, Exit.then]); refine bodyPost_ret (results_none rfl _ _ _) rfl ?_
  exact ⟨rfl, rfl⟩
set_option maxRecDepth 100000 in
set_option maxHeartbeats 2000000 in
theorem sort_none (p : Option Addr) (cap : Nat) (fv : Value) (w : World) :
    Calls Tryz.prog 83 #[.slice p 0 cap, fv] w fun e w' => e = .returned (.tuple #[]) ∧ w = w' := by
  have hl : ∀ W, Calls Tryz.prog 99 #[.int .u64 0] W fun e w' => e = .returned (.int .i64 (Lib.bitLen (0 : Int).toNat : Nat)) ∧ w' = W := fun W => Tryz.bits_Len 0 W (by omega) (by omega)
  go_enter Tryz.func83, Tryz.ntmps83
  go_wp2_with (first | (go_at_call 99; refine (hl _).mono ?_; rintro e w' ⟨rfl, rfl⟩) | (go_at_call 98; refine (pdq_none _ _ _ _ _).mono ?_; rintro e w' ⟨rfl, rfl⟩))
  go_end0
  exact ⟨rfl, rfl⟩

/-! A sort of labels. -/
section
variable {m : Nat}
abbrev encF (x : Fin (m + 1)) : Value := .int .i64 ((x.val : Nat) : Int)
def cfF (up : List UInt8) (x y : Fin (m + 1)) : Int := cfN up x.val y.val
theorem lt_cf (up : List UInt8) (x y : Fin (m + 1)) : ltOf (cfF up) x y = lt2 up x.val y.val := by
  unfold ltOf cfF cfN
  cases h : lt2 up x.val y.val
  · rw [if_neg (by decide)]
    cases h2 : lt2 up y.val x.val
    · rw [if_neg (by decide)]; rfl
    · rw [if_pos rfl]; rfl
  · rw [if_pos rfl]; rfl
theorem swo_cf (up : List UInt8) : Go.Sort.SWO (ltOf (cfF (m := m) up)) where
  irrefl x := by rw [lt_cf]; exact lt2_no.2 (.inr ⟨rfl, Nat.le_refl _⟩)
  trans x y z h1 h2 := by
    rw [lt_cf] at *
    have q1 := lt2_iff.1 h1
    have q2 := lt2_iff.1 h2
    exact lt2_iff.2 (by omega)
  ntrans x y z h1 h2 := by
    rw [lt_cf] at *
    have q1 := lt2_no.1 h1
    have q2 := lt2_no.1 h2
    exact lt2_no.2 (by omega)
/-- The labels as numbers below the bound. -/
def finL (m : Nat) (l : List Nat) : List (Fin (m + 1)) := l.map (Fin.ofNat (m + 1))
theorem finL_len (l : List Nat) : (finL m l).length = l.length := by simp [finL]
theorem finL_val {l : List Nat} (h : ∀ a ∈ l, a < m + 1) : (finL m l).map (fun x => x.val) = l := by
  unfold finL
  rw [List.map_map]
  conv => rhs; rw [← List.map_id l]
  refine List.map_congr_left fun a ha => ?_
  show a % (m + 1) = a
  exact Nat.mod_eq_of_lt (h a ha)
theorem finL_get {l : List Nat} (h : ∀ a ∈ l, a < m + 1) (j : Nat) (hj : j < l.length) : ((finL m l).toArray[j]!).val = l[j] := by
  have h1 : (finL m l)[j]? = some (Fin.ofNat (m + 1) l[j]) := by unfold finL; rw [List.getElem?_map, List.getElem?_eq_getElem hj]; rfl
  rw [getElem!_def]
  have h2 : (finL m l).toArray[j]? = some (Fin.ofNat (m + 1) l[j]) := by simpa using h1
  rw [h2]
  show l[j] % (m + 1) = l[j]
  exact Nat.mod_eq_of_lt (h _ (List.getElem_mem hj))
/-- What is left by a sort is the one sorted list. -/
theorem sorted_is (up : List UInt8) (l : List Nat) (hl : ∀ a ∈ l, a < m + 1) (hnd : l.Nodup) (p : Nat → Bool) (ho : Ord (le up) up.length) (hp : ∀ a, a ∈ l ↔ a < up.length ∧ p a = true)
    (d : Array (Fin (m + 1))) (h1 : Go.Sort.PermIn 0 (finL m l).toArray.size (finL m l).toArray d) (h2 : Go.Sort.SortedIn (ltOf (cfF up)) 0 (finL m l).toArray.size d) : d.toList.map (fun x => x.val) = srt up p := by
  obtain ⟨hsz, _, hperm⟩ := h1
  have e1 : d.extract 0 (finL m l).toArray.size = d := by rw [← hsz]; exact Array.extract_size
  rw [e1, Array.extract_size] at hperm
  have hpm : (d.toList.map (fun x => x.val)).Perm l := by
    have := hperm.map (fun x : Fin (m + 1) => x.val)
    rwa [List.toList_toArray, finL_val hl] at this
  refine pair_uniq up ?_ (srt_pair up p) fun x => ?_
  · rw [List.pairwise_map, List.pairwise_iff_getElem]
    intro i j hi hj hij
    have hi' : i < d.size := by simpa using hi
    have hj' : j < d.size := by simpa using hj
    have hs := h2 i j (Nat.zero_le _) hij (by rw [← hsz]; exact hj')
    rw [lt_cf, getElem!_pos d j hj', getElem!_pos d i hi'] at hs
    have hne : d[i].val ≠ d[j].val := by
      have hnd2 := (hpm.nodup_iff).2 hnd
      rw [List.nodup_iff_pairwise_ne, List.pairwise_map, List.pairwise_iff_getElem] at hnd2
      have := hnd2 i j hi hj hij
      simpa using this
    simp only [Array.getElem_toList]
    have q := lt2_no.1 hs
    exact lt2_iff.2 (by omega)
  · rw [hpm.mem_iff, hp, mem_srt ho]
end

theorem hlen (n : Nat) (W : World) (h : n ≤ 12) : Calls Tryz.prog 99 #[.int .u64 n] W fun e w' => (∃ l : Int, e = .returned (.int .i64 l)) ∧ w' = W :=
  (Tryz.bits_Len n W (by omega) (by omega)).mono fun _ _ ⟨he, hw⟩ => ⟨⟨_, he⟩, hw⟩
end Go.Proofs.YtablaacddbkeiaaGreatDoor
