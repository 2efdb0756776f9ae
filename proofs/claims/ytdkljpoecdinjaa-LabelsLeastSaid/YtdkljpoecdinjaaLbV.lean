/- Pure facts for the law LabelsLeast; what it keeps. -/
import Derived.Test.YtdkljpoecdinjaaLbT
namespace Go.Proofs.Ytdkljpoecdinjaa
open Go.RowKit

theorem an_s {f : Bool} {p : Nat → Bool} {k : Nat} (h : f = (List.range k).any p) : (f || p k) = (List.range (k + 1)).any p := by
  rw [h, List.range_succ, List.any_append]; simp
/-- What is known of the list that Least returns. -/
structure Lq (up : List UInt8) (ls S : List Nat) : Prop where
  all : ∀ a ∈ S, a < up.length
  mem : ∀ a ∈ S, a ∈ ls
  some : ∀ a ∈ ls, ∃ k, ∃ h : k < S.length, le up S[k] a = true
  apart : ∀ i k (_ : i ≠ k) (hi : i < S.length) (hk : k < S.length), le up S[i] S[k] = false
theorem lq_of {ns : List ByteArray} {up : List UInt8} {ls : List Nat} (hg : GL ns up ls) : Lq up ls (srt up (leB up ls)) where
  all a ha := ((mem_srt hg.good.ords.1).1 ha).1
  mem a ha := (leB_iff.1 ((mem_srt hg.good.ords.1).1 ha).2).1
  some a ha := by
    obtain ⟨m, hm, h1, h2⟩ := ls_least hg.good.ords.1 hg.all _ a (Nat.le_refl _) ha
    obtain ⟨k, hk, e⟩ := List.getElem_of_mem ((mem_srt hg.good.ords.1).2 ⟨hm, h1⟩)
    exact ⟨k, hk, by rw [e]; exact h2⟩
  apart i k hne hi hk := by
    have h1 := leB_iff.1 ((mem_srt hg.good.ords.1).1 (List.getElem_mem hi)).2
    have h2 := leB_iff.1 ((mem_srt hg.good.ords.1).1 (List.getElem_mem hk)).2
    rcases h2.2 _ h1.1 with e | e
    · exfalso
      have hn := srt_nodup up (leB up ls)
      rcases Nat.lt_or_gt_of_ne hne with h | h
      · exact List.pairwise_iff_getElem.1 hn i k hi hk h e
      · exact List.pairwise_iff_getElem.1 hn k i hk hi h e.symm
    · exact e
/-- How many labels are at or above one, of the first k. -/
def hvK (up : List UInt8) (a k : Nat) : Nat := ((List.range k).filter fun b => le up a b).length
theorem hvK_t {up : List UInt8} {a k : Nat} (h : le up a k = true) : hvK up a (k + 1) = hvK up a k + 1 := by
  unfold hvK; rw [List.range_succ, List.filter_append]; simp [h]
theorem hvK_f {up : List UInt8} {a k : Nat} (h : le up a k = false) : hvK up a (k + 1) = hvK up a k := by
  unfold hvK; rw [List.range_succ, List.filter_append]; simp [h]
theorem hvK_le (up : List UInt8) (a k : Nat) : hvK up a k ≤ k := by
  have := List.length_filter_le (fun b => le up a b) (List.range k)
  rwa [List.length_range] at this
theorem srt_count {up : List UInt8} (ho : Ord (le up) up.length) (p : Nat → Bool) : (srt up p).length = ((List.range up.length).filter p).length := by
  refine Nat.le_antisymm (sub_len (srt_nodup up p) fun x hx => ?_) (sub_len (rf_nodup _ _) fun x hx => ?_)
  · have := (mem_srt ho).1 hx
    exact List.mem_filter.2 ⟨List.mem_range.2 this.1, this.2⟩
  · have := List.mem_filter.1 hx
    exact (mem_srt ho).2 ⟨List.mem_range.1 this.1, this.2⟩
/-- What is known of the lists that Down and Up return. -/
structure Dq (up : List UInt8) (x : Nat) (D U : List Nat) : Prop where
  dlen : D.length = lvK up x up.length
  ulen : U.length = hvK up x up.length
  dpos : 0 < D.length
  upos : 0 < U.length
  dlast : ∀ h : D.length - 1 < D.length, D[D.length - 1] = x
  uhead : ∀ h : 0 < U.length, U[0] = x
  dall : ∀ a ∈ D, a < up.length ∧ le up a x = true
  uall : ∀ a ∈ U, a < up.length ∧ le up x a = true
theorem dq_of {up : List UInt8} (ho : Ord (le up) up.length) {x : Nat} (hx : x < up.length) : Dq up x (srt up (fun b => le up b x)) (srt up (fun b => le up x b)) where
  dlen := srt_count ho _
  ulen := srt_count ho _
  dpos := List.length_pos_of_mem ((mem_srt ho).2 ⟨hx, ho.refl x hx⟩)
  upos := List.length_pos_of_mem ((mem_srt ho).2 ⟨hx, ho.refl x hx⟩)
  dlast h := by
    obtain ⟨j, hj, e⟩ := List.getElem_of_mem ((mem_srt (p := fun b => le up b x) ho).2 ⟨hx, ho.refl x hx⟩)
    have hm := (mem_srt ho).1 (List.getElem_mem h)
    by_cases c : (srt up (fun b => le up b x))[(srt up (fun b => le up b x)).length - 1] = x
    · exact c
    · exfalso
      have h1 := lv_lt ho hm.1 hx hm.2 c
      by_cases c2 : j = (srt up (fun b => le up b x)).length - 1
      · subst c2; exact c e
      · have h2 := lt2_iff.1 (List.pairwise_iff_getElem.1 (srt_pair up (fun b => le up b x)) j _ hj h (by omega))
        rw [e] at h2
        omega
  uhead h := by
    obtain ⟨j, hj, e⟩ := List.getElem_of_mem ((mem_srt (p := fun b => le up x b) ho).2 ⟨hx, ho.refl x hx⟩)
    have hm := (mem_srt ho).1 (List.getElem_mem h)
    by_cases c : (srt up (fun b => le up x b))[0] = x
    · exact c
    · exfalso
      have h1 := lv_lt ho hx hm.1 hm.2 (fun e => c e.symm)
      by_cases c2 : j = 0
      · subst c2; exact c e
      · have h2 := lt2_iff.1 (List.pairwise_iff_getElem.1 (srt_pair up (fun b => le up x b)) 0 j h hj (by omega))
        rw [e] at h2
        omega
  dall a ha := (mem_srt ho).1 ha
  uall a ha := (mem_srt ho).1 ha

/-- What the law keeps: its lattice, two lists. -/
structure Km (w : World) (vn vu lv sv : Value) (ns : List ByteArray) (up : List UInt8) (ls S : List Nat) (W : World) : Prop where
  l : Bx w vn vu ns up W
  z : RdN W.heap.size W lv ls
  s : RdN W.heap.size W sv S
theorem Km.next {w W W' : World} {vn vu lv sv : Value} {ns : List ByteArray} {up : List UInt8} {ls S : List Nat} (h : Km w vn vu lv sv ns up ls S W) (hb : Below W.heap.size W W') : Km w vn vu lv sv ns up ls S W' :=
  ⟨h.l.next hb, h.z.next hb, h.s.next hb⟩
/-- What a region keeps besides: two cells. -/
def K5 (w : World) (vn vu lv sv : Value) (ns : List ByteArray) (up : List UInt8) (ls S : List Nat) (p q : Addr) (x y : Int) (W : World) : Prop :=
  Km w vn vu lv sv ns up ls S W ∧ W.cell? ⟨w.heap.size, 0, none⟩ = some vn ∧ W.cell? ⟨w.heap.size, 1, none⟩ = some vu ∧ W.cell? p = some (.int .i64 x) ∧ W.cell? q = some (.int .i64 y)
section
variable {w : World} {vn vu lv sv : Value} {ns : List ByteArray} {up : List UInt8} {ls S : List Nat} {p q : Addr} {x y : Int}
theorem k5 (hp : ∀ W, Km w vn vu lv sv ns up ls S W → W.cell? p = some (.int .i64 x)) (hq : ∀ W, Km w vn vu lv sv ns up ls S W → W.cell? q = some (.int .i64 y)) {W : World} (h : Km w vn vu lv sv ns up ls S W) :
    Km w vn vu lv sv ns up ls S W ∧ W.cell? ⟨w.heap.size, 0, none⟩ = some vn ∧ W.cell? ⟨w.heap.size, 1, none⟩ = some vu ∧ W.cell? p = some (.int .i64 x) ∧ W.cell? q = some (.int .i64 y) := ⟨h, h.l.x0, h.l.x1, hp W h, hq W h⟩
theorem k5n (hp : ∀ W, Km w vn vu lv sv ns up ls S W → W.cell? p = some (.int .i64 x)) (hq : ∀ W, Km w vn vu lv sv ns up ls S W → W.cell? q = some (.int .i64 y)) {W W' : World} {r : Prop} (h : Km w vn vu lv sv ns up ls S W ∧ r) (hb : Below W.heap.size W W') :
    Km w vn vu lv sv ns up ls S W' ∧ W'.cell? ⟨w.heap.size, 0, none⟩ = some vn ∧ W'.cell? ⟨w.heap.size, 1, none⟩ = some vu ∧ W'.cell? p = some (.int .i64 x) ∧ W'.cell? q = some (.int .i64 y) := k5 hp hq (h.1.next hb)
theorem km_rd {W : World} {r : Prop} (h : Km w vn vu lv sv ns up ls S W ∧ r) : RdL W.heap.size W (.agg #[vn, vu]) ns up := h.1.l.rd
end
end Go.Proofs.Ytdkljpoecdinjaa
