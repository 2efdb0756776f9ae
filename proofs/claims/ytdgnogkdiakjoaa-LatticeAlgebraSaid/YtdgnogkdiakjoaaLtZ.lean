/- Print. -/
import Derived.Test.YtdgnogkdiakjoaaLtX
import Derived.Test.YtdgnogkdiakjoaaLtY
namespace Go.Proofs.Ytdgnogkdiakjoaa
open Go.RowKit

theorem own_below {w w' : World} {base : Nat} {e : TypeId} {size : Nat} {v : Value} {n : Nat} {xs : List Value} (h : w.ownsRow base e size v n xs) (hb : Below w.heap.size w w') : w'.ownsRow base e size v n xs := by
  obtain ⟨h1, h2⟩ := h
  refine ⟨h1, ?_⟩
  rcases h2 with h2 | ⟨g, cap, cur, hv, hg, hh, r⟩
  · exact .inl h2
  · exact .inr ⟨g, cap, cur, hv, hg, by rw [hb.block g (Array.getElem?_eq_some_iff.1 hh).1]; exact hh, r⟩
theorem at_below {B b : Nat} {p : Value} {bs : List Value} {w w' : World} (h : Lib.BuilderAt 56 5 B b p bs w) (hb : Below w.heap.size w w') : Lib.BuilderAt 56 5 B b p bs w' := by
  obtain ⟨hB, v, hbk, hown, hne⟩ := h
  exact ⟨hB, v, by rw [hb.block b (Array.getElem?_eq_some_iff.1 hbk).1]; exact hbk, own_below hown hb, hne⟩
theorem bu_below {B b : Nat} {l : List UInt8} {w w' : World} (h : IsBu B b l w) (hb : Below w.heap.size w w') : IsBu B b l w' := by
  rcases h with h | h
  · exact .inl (at_below h hb)
  · exact .inr (at_below h hb)
theorem bu_new (w : World) : IsBu w.heap.size w.heap.size [] (w.alloc (.cells #[.pointer none, .slice none 0 0] 56)) :=
  .inl ⟨Nat.le_refl _, .slice none 0 0, heap_new _ _, World.ownsRow_nil _ _ _ _, by simp [Value.ownBlock]⟩

/-- A line of the text. -/
def lnB (ns : List ByteArray) (up : List UInt8) (i : Nat) : List UInt8 := byt (ns.getD i ByteArray.empty) ++ [32] ++ rowB up i ++ [10]
def prL (ns : List ByteArray) (up : List UInt8) (k : Nat) : List UInt8 := (List.range k).flatMap (lnB ns up)
theorem prL_succ (ns : List ByteArray) (up : List UInt8) (k : Nat) : prL ns up (k + 1) = prL ns up k ++ lnB ns up k := by
  unfold prL; rw [List.range_succ, List.flatMap_append]; simp
theorem getD_get {ns : List ByteArray} {i : Nat} (h : i < ns.length) : ns.getD i ByteArray.empty = ns[i] := by
  rw [List.getD_eq_getElem?_getD, List.getElem?_eq_getElem h]; rfl
theorem fs_none {α : Type} {f : Nat → Option α} {n : Nat} (h : (List.range n).findSome? f = none) : ∀ i, i < n → f i = none := by
  intro i hi
  exact List.findSome?_eq_none_iff.1 h i (List.mem_range.2 hi)
theorem Good.name {ns : List ByteArray} {up : List UInt8} (h : Good ns up) (i : Nat) (hi : i < ns.length) : nameB (byt ns[i]) = true := by
  have := fs_none h.nms i (by rw [List.length_map]; exact hi)
  unfold nm1 at this
  rw [get_map ns i hi] at this
  cases e : nameB (byt ns[i])
  · rw [e] at this; simp at this
  · rfl
theorem name16 {l : List UInt8} (h : nameB l = true) : l.length ≤ 16 := by
  unfold nameB at h
  simp only [Bool.and_eq_true, decide_eq_true_eq] at h
  exact h.1.1.2
theorem lnB_len {ns : List ByteArray} {up : List UInt8} (h : Good ns up) (i : Nat) (hi : i < ns.length) : (lnB ns up i).length ≤ 26 := by
  have := name16 (h.name i hi)
  have := h.len
  have := h.most
  unfold lnB
  rw [getD_get hi]
  simp only [List.length_append, List.length_cons, List.length_nil, rowB_len]
  omega
theorem prL_len {ns : List ByteArray} {up : List UInt8} (h : Good ns up) (k : Nat) (hk : k ≤ ns.length) : (prL ns up k).length ≤ k * 26 := by
  induction k with
  | zero => simp [prL]
  | succ k ih =>
    rw [prL_succ, List.length_append]
    have := lnB_len h k (by omega)
    have := ih (by omega)
    omega

set_option maxRecDepth 100000 in
set_option maxHeartbeats 4000000 in
theorem print_ok (v : Value) (ns : List ByteArray) (up : List UInt8) (w : World) (hv : RdL w.heap.size w v ns up) (hg : Good ns up) :
    Calls Try.prog 14 #[v] w fun e w' => e = .returned (.tuple #[.string ⟨(prL ns up ns.length).toArray⟩, .int .i64 0]) ∧ Below w.heap.size w w' := by
  have HL := Lib.hid hv
  obtain ⟨⟨vn, vu, rfl, hS, hB⟩, hsz⟩ := hv
  have HB := Lib.hid hB
  have HS := Lib.hid hS
  obtain ⟨p, cap, rfl, hc, hc2, h⟩ := hS
  obtain ⟨q, cap', rfl, hc', hc2', h'⟩ := hB
  clear h h' hsz
  have hu8 : up.length ≤ 8 := by have := hg.most; have := hg.len; omega
  have hn8 : ns.length ≤ 8 := hg.most
  have hun : ns.length ≤ up.length := by have := hg.len; omega
  have HG := Lib.hid hg
  have H0 := Lib.hid hg.ck
  clear hg
  go_enter Try.func14, Try.ntmps14
  go_wp2_with (first
    | (go_at_call 6; refine (check_any _ ns up _ (HL.out.al _)).mono ?_; rw [H0.out]; rintro e w1 ⟨rfl, hbw⟩; have hbs : w.heap.size + 1 ≤ w1.heap.size := (by have := hbw.size; simpa using this); have hx0 : w1.cell? ⟨w.heap.size, 0, none⟩ = some (.slice p ns.length cap) := box_cell hbw 0 rfl; have hx1 : w1.cell? ⟨w.heap.size, 1, none⟩ = some (.slice q up.length cap') := box_cell hbw 1 rfl; have hxx : (w1.alloc (.cells #[.pointer none, .slice none 0 0] 56)).cell? ⟨w.heap.size, 0, none⟩ = some (.slice p ns.length cap) := ((bel1 w1 _).cell (p := ⟨w.heap.size, 0, none⟩) (by show w.heap.size < w1.heap.size; omega)).trans hx0; have HU := Lib.hid ((HB.out.al _).next hbw); have HN := Lib.hid ((HS.out.al _).next hbw)))
  have HBW := Lib.hid (bel2 hbw)
  clear hbw hxx
  go_loopg [20] ns.length (fun g i wr => ∃ k : Nat, k + g = ns.length ∧ i = .int .i64 k ∧ Below w1.heap.size w1 wr ∧ IsBu w1.heap.size w1.heap.size (prL ns up k) wr)
  case atStart => exact ⟨0, by omega, rfl, bel1 _ _, bu_new _⟩
  case round =>
    obtain ⟨k, hkg, rfl, hbl, hbu⟩ := hrel
    have hsz := hbl.size
    cases gk with
    | zero =>
      have hkz : ¬ ((k : Int) < (ns.length : Int)) := by omega
      have HK : Hid (k = ns.length) := by unfold Hid; omega
      go_wp2_with (go_at_call 26; refine (Try.Builder_String_any _ _ _ _ hbu hsz).mono ?_; rintro e w2 ⟨rfl, hb2⟩)
      go_ret2
      exact ⟨by rw [HK.out]; rfl, HBW.out.trans ((hbl.trans hb2).mono HBW.out.size)⟩
    | succ g =>
      have hlt : (k : Int) < (ns.length : Int) := by omega
      have hk : k < ns.length := by omega
      obtain ⟨b0, off, rfl, hlt0, hxn⟩ := (HN.out.below hbl).at k hk
      have hpl := prL_len HG.out k (by omega)
      have hnl : ns[k].size ≤ 16 := by rw [← byt_len]; exact name16 (HG.out.name k hk)
      have hy0 : wr.cell? ⟨w.heap.size, 0, none⟩ = some (.slice (some ⟨b0, off, none⟩) ns.length cap) := (hbl.cell (p := ⟨w.heap.size, 0, none⟩) (by show w.heap.size < w1.heap.size; omega)).trans hx0
      have hy1 : wr.cell? ⟨w.heap.size, 1, none⟩ = some (.slice q up.length cap') := (hbl.cell (p := ⟨w.heap.size, 1, none⟩) (by show w.heap.size < w1.heap.size; omega)).trans hx1
      have HLn : Hid (lnB ns up k = byt ns[k] ++ [32] ++ rowB up k ++ [10]) := by unfold Hid lnB; rw [getD_get hk]
      have HRl := Lib.hid (rowB_len up k)
      go_wp2_with fail
      refine (ws_any _ _ _ _ _ hbu (by omega) hsz).mono ?_
      rintro e w2 ⟨rfl, hbu2, hb2⟩
      have hs2 := hb2.size
      have hl2 : (prL ns up k ++ byt ns[k]).length ≤ 300 := by rw [List.length_append, byt_len]; omega
      go_wp2_with fail
      refine (wb_any _ _ _ 32 32 rfl _ hbu2 (by omega) (by omega)).mono ?_
      rintro e w3 ⟨rfl, hbu3, hb3⟩
      have hs3 := hb3.size
      have hl3 : (prL ns up k ++ byt ns[k] ++ [32]).length ≤ 301 := by rw [List.length_append]; simp only [List.length_cons, List.length_nil]; omega
      have hb13 := (hbl.trans hb2).trans hb3
      have hz1 : w3.cell? ⟨w.heap.size, 1, none⟩ = some (.slice q up.length cap') := (hb13.cell (p := ⟨w.heap.size, 1, none⟩) (by show w.heap.size < w1.heap.size; omega)).trans hx1
      have hz0 : w3.cell? ⟨w.heap.size, 0, none⟩ = some (.slice (some ⟨b0, off, none⟩) ns.length cap) := (hb13.cell (p := ⟨w.heap.size, 0, none⟩) (by show w.heap.size < w1.heap.size; omega)).trans hx0
      go_wp2_with fail
      refine (rowOf_any _ up _ _ (HU.out.next hb13) (by omega) hu8).mono ?_
      rintro e w4 ⟨rfl, hb4⟩
      have hs4 := hb4.size
      have hbu4 := bu_below hbu3 hb4
      go_wp2_with fail
      refine (ws_any _ _ _ _ _ hbu4 (by rw [size_mk, rowB_len]; omega) (by omega)).mono ?_
      rintro e w5 ⟨rfl, hbu5, hb5⟩
      have hs5 := hb5.size
      have hl5 : (prL ns up k ++ byt ns[k] ++ [32] ++ byt ⟨(rowB up k).toArray⟩).length ≤ 310 := by rw [List.length_append, byt_mk (rowB up k), rowB_len]; omega
      go_wp2_with fail
      refine (wb_any _ _ _ 10 10 rfl _ hbu5 (by omega) (by omega)).mono ?_
      rintro e w6 ⟨rfl, hbu6, hb6⟩
      have hb16 := ((hb13.trans (hb4.mono (by omega))).trans hb5).trans hb6
      go_wp2_with fail
      go_roundg g
      case measure => omega
      case rel => exact ⟨k + 1, by omega, by go_num, hb16, by rw [prL_succ, HLn.out]; rw [byt_mk (rowB up k)] at hbu6; simpa only [List.append_assoc] using hbu6⟩
end Go.Proofs.Ytdgnogkdiakjoaa
