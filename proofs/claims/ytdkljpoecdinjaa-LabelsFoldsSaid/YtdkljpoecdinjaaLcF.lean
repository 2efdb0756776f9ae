/- The law LabelsFolds as a walk. -/
import Derived.Test.YtdkljpoecdinjaaLbW
import Derived.Test.YtdkljpoecdinjaaLbT
namespace Go.Proofs.Ytdkljpoecdinjaa
open Go.RowKit

theorem ljoin_some (v u : Value) (ns : List ByteArray) (up : List UInt8) (zs : List Int) (w : World) (hv : RdL w.heap.size w v ns up) (hz : RdI w.heap.size w u zs) :
    Calls Try.prog 21 #[v, u] w fun e w' => ∃ j : Int, e = .returned (.tuple #[.int .i64 j, .int .i64 (lck ns up zs).2]) ∧ Below w.heap.size w w' := by
  cases e0 : ((lck ns up zs).2 != 0) with
  | true => exact (ljoin_bad v u ns up zs w hv hz e0).mono fun e w' h => ⟨0, h.1, h.2⟩
  | false =>
    obtain ⟨ls, rfl, hg⟩ := gl_of e0
    exact (ljoin_ok v u ns up ls w hv (rd_nat hz) hg).mono fun e w' h => ⟨_, by rw [hg.lck]; exact h.1, h.2⟩
set_option maxRecDepth 100000 in
set_option maxHeartbeats 8000000 in
theorem lawFolds_far (v u x : Value) (ns : List ByteArray) (up : List UInt8) (la lb : List Int) (w : World) (hv : RdL w.heap.size w v ns up) (hza : RdI w.heap.size w u la) (hzb : RdI w.heap.size w x lb) (e0 : farB ns up = true) :
    Calls Try.prog 5 #[v, u, x] w fun e w' => e = .returned (.bool true) ∧ Below w.heap.size w w' := by
  have HL := Lib.hid hv
  obtain ⟨⟨vn, vu, rfl, hS, hB⟩, hsz⟩ := hv
  obtain ⟨q1, cap, rfl, hc, hc2, h⟩ := hS
  obtain ⟨q, cap', rfl, hc', hc2', h'⟩ := hB
  clear h h' hsz
  have HZa := Lib.hid hza
  obtain ⟨aa, ca, rfl, hla, hla2, h⟩ := hza
  clear h
  have HZb := Lib.hid hzb
  obtain ⟨ab, cb, rfl, hlb, hlb2, h⟩ := hzb
  clear h
  have HI := Lib.hid (Bx.new HL.out)
  go_enter Try.func5, Try.ntmps5
  go_wp2_with (first
    | (go_at_call 8; refine (far_any _ ns up _ HI.out.rd).mono ?_; rintro e w' ⟨rfl, hbn⟩; have HI2 := Lib.hid (HI.out.next hbn); clear HI; have HI := HI2; clear HI2; have hx0 := HI.out.x0; have hx1 := HI.out.x1; clear hbn)
    | (go_at_call 9; refine (awake4_any _).mono ?_; rintro e w' ⟨rfl, hbn⟩; clear hx0 hx1; have HI2 := Lib.hid (HI.out.next hbn); clear HI; have HI := HI2; clear HI2; have hx0 := HI.out.x0; have hx1 := HI.out.x1; clear hbn))
  go_ret
  exact ⟨ret_bool (by first | rfl | simp), HI.out.bel⟩
set_option maxRecDepth 100000 in
set_option maxHeartbeats 8000000 in
theorem lawFolds_la (v u x : Value) (ns : List ByteArray) (up : List UInt8) (la lb : List Int) (w : World) (hv : RdL w.heap.size w v ns up) (hza : RdI w.heap.size w u la) (hzb : RdI w.heap.size w x lb) (e0 : farB ns up = false) (h1 : (32 : Int) < (la.length : Int)) :
    Calls Try.prog 5 #[v, u, x] w fun e w' => e = .returned (.bool true) ∧ Below w.heap.size w w' := by
  have HL := Lib.hid hv
  obtain ⟨⟨vn, vu, rfl, hS, hB⟩, hsz⟩ := hv
  obtain ⟨q1, cap, rfl, hc, hc2, h⟩ := hS
  obtain ⟨q, cap', rfl, hc', hc2', h'⟩ := hB
  clear h h' hsz
  have HZa := Lib.hid hza
  obtain ⟨aa, ca, rfl, hla, hla2, h⟩ := hza
  clear h
  have HZb := Lib.hid hzb
  obtain ⟨ab, cb, rfl, hlb, hlb2, h⟩ := hzb
  clear h
  have HI := Lib.hid (Bx.new HL.out)
  go_enter Try.func5, Try.ntmps5
  go_wp2_with (first
    | (go_at_call 8; refine (far_any _ ns up _ HI.out.rd).mono ?_; rintro e w' ⟨rfl, hbn⟩; have HI2 := Lib.hid (HI.out.next hbn); clear HI; have HI := HI2; clear HI2; have hx0 := HI.out.x0; have hx1 := HI.out.x1; clear hbn)
    | (go_at_call 9; refine (awake4_any _).mono ?_; rintro e w' ⟨rfl, hbn⟩; clear hx0 hx1; have HI2 := Lib.hid (HI.out.next hbn); clear HI; have HI := HI2; clear HI2; have hx0 := HI.out.x0; have hx1 := HI.out.x1; clear hbn))
  go_ret
  exact ⟨ret_bool (by first | rfl | simp), HI.out.bel⟩
set_option maxRecDepth 100000 in
set_option maxHeartbeats 8000000 in
theorem lawFolds_lb (v u x : Value) (ns : List ByteArray) (up : List UInt8) (la lb : List Int) (w : World) (hv : RdL w.heap.size w v ns up) (hza : RdI w.heap.size w u la) (hzb : RdI w.heap.size w x lb) (e0 : farB ns up = false) (h1 : ¬ (32 : Int) < (la.length : Int)) (h2 : (32 : Int) < (lb.length : Int)) :
    Calls Try.prog 5 #[v, u, x] w fun e w' => e = .returned (.bool true) ∧ Below w.heap.size w w' := by
  have HL := Lib.hid hv
  obtain ⟨⟨vn, vu, rfl, hS, hB⟩, hsz⟩ := hv
  obtain ⟨q1, cap, rfl, hc, hc2, h⟩ := hS
  obtain ⟨q, cap', rfl, hc', hc2', h'⟩ := hB
  clear h h' hsz
  have HZa := Lib.hid hza
  obtain ⟨aa, ca, rfl, hla, hla2, h⟩ := hza
  clear h
  have HZb := Lib.hid hzb
  obtain ⟨ab, cb, rfl, hlb, hlb2, h⟩ := hzb
  clear h
  have HI := Lib.hid (Bx.new HL.out)
  go_enter Try.func5, Try.ntmps5
  go_wp2_with (first
    | (go_at_call 8; refine (far_any _ ns up _ HI.out.rd).mono ?_; rintro e w' ⟨rfl, hbn⟩; have HI2 := Lib.hid (HI.out.next hbn); clear HI; have HI := HI2; clear HI2; have hx0 := HI.out.x0; have hx1 := HI.out.x1; clear hbn)
    | (go_at_call 9; refine (awake4_any _).mono ?_; rintro e w' ⟨rfl, hbn⟩; clear hx0 hx1; have HI2 := Lib.hid (HI.out.next hbn); clear HI; have HI := HI2; clear HI2; have hx0 := HI.out.x0; have hx1 := HI.out.x1; clear hbn))
  go_ret
  exact ⟨ret_bool (by first | rfl | simp), HI.out.bel⟩
set_option maxRecDepth 100000 in
set_option maxHeartbeats 8000000 in
theorem lawFolds_ba (v u x : Value) (ns : List ByteArray) (up : List UInt8) (la lb : List Int) (w : World) (hv : RdL w.heap.size w v ns up) (hza : RdI w.heap.size w u la) (hzb : RdI w.heap.size w x lb) (e0 : farB ns up = false) (h1 : ¬ (32 : Int) < (la.length : Int)) (h2 : ¬ (32 : Int) < (lb.length : Int)) (k1 : ((lck ns up la).2 != 0) = true) :
    Calls Try.prog 5 #[v, u, x] w fun e w' => e = .returned (.bool true) ∧ Below w.heap.size w w' := by
  have HL := Lib.hid hv
  obtain ⟨⟨vn, vu, rfl, hS, hB⟩, hsz⟩ := hv
  obtain ⟨q1, cap, rfl, hc, hc2, h⟩ := hS
  obtain ⟨q, cap', rfl, hc', hc2', h'⟩ := hB
  clear h h' hsz
  have HZa := Lib.hid hza
  obtain ⟨aa, ca, rfl, hla, hla2, h⟩ := hza
  clear h
  have HZb := Lib.hid hzb
  obtain ⟨ab, cb, rfl, hlb, hlb2, h⟩ := hzb
  clear h
  have HI := Lib.hid (Bx.new HL.out)
  have HJa : Hid (∀ W, Below w.heap.size w W → RdL W.heap.size W (.agg #[.slice q1 ns.length cap, .slice q up.length cap']) ns up → Calls Try.prog 21 #[.agg #[.slice q1 ns.length cap, .slice q up.length cap'], .slice aa la.length ca] W (fun e w' => ∃ j : Int, e = .returned (.tuple #[.int .i64 j, .int .i64 (lck ns up la).2]) ∧ Below W.heap.size W w')) := fun W hb hW => ljoin_some _ _ ns up la W hW (HZa.out.next hb)
  have HJb : Hid (∀ W, Below w.heap.size w W → RdL W.heap.size W (.agg #[.slice q1 ns.length cap, .slice q up.length cap']) ns up → Calls Try.prog 21 #[.agg #[.slice q1 ns.length cap, .slice q up.length cap'], .slice ab lb.length cb] W (fun e w' => ∃ j : Int, e = .returned (.tuple #[.int .i64 j, .int .i64 (lck ns up lb).2]) ∧ Below W.heap.size W w')) := fun W hb hW => ljoin_some _ _ ns up lb W hW (HZb.out.next hb)
  generalize (lck ns up la).2 = ea at HJa k1
  generalize (lck ns up lb).2 = eb at HJb
  go_enter Try.func5, Try.ntmps5
  go_wp2_with (first
    | (go_at_call 8; refine (far_any _ ns up _ HI.out.rd).mono ?_; rintro e w' ⟨rfl, hbn⟩; have HI2 := Lib.hid (HI.out.next hbn); clear HI; have HI := HI2; clear HI2; have hx0 := HI.out.x0; have hx1 := HI.out.x1; clear hbn)
    | (go_at_call 21; (with_reducible refine (HJa.out _ HI.out.bel HI.out.rd).mono ?_); rintro e w' ⟨jHJa, rfl, hbn⟩; clear hx0 hx1; have HI2 := Lib.hid (HI.out.next hbn); clear HI; have HI := HI2; clear HI2; have hx0 := HI.out.x0; have hx1 := HI.out.x1; clear hbn)
    | (go_at_call 21; (with_reducible refine (HJb.out _ HI.out.bel HI.out.rd).mono ?_); rintro e w' ⟨jHJb, rfl, hbn⟩; clear hx0 hx1; have HI2 := Lib.hid (HI.out.next hbn); clear HI; have HI := HI2; clear HI2; have hx0 := HI.out.x0; have hx1 := HI.out.x1; clear hbn)
    | (go_at_call 9; refine (awake4_any _).mono ?_; rintro e w' ⟨rfl, hbn⟩; clear hx0 hx1; have HI2 := Lib.hid (HI.out.next hbn); clear HI; have HI := HI2; clear HI2; have hx0 := HI.out.x0; have hx1 := HI.out.x1; clear hbn))
  go_ret
  exact ⟨ret_bool (by first | rfl | simp), HI.out.bel⟩
set_option maxRecDepth 100000 in
set_option maxHeartbeats 8000000 in
theorem lawFolds_bb (v u x : Value) (ns : List ByteArray) (up : List UInt8) (la lb : List Int) (w : World) (hv : RdL w.heap.size w v ns up) (hza : RdI w.heap.size w u la) (hzb : RdI w.heap.size w x lb) (e0 : farB ns up = false) (h1 : ¬ (32 : Int) < (la.length : Int)) (h2 : ¬ (32 : Int) < (lb.length : Int)) (k1 : ((lck ns up la).2 != 0) = false) (k2 : ((lck ns up lb).2 != 0) = true) :
    Calls Try.prog 5 #[v, u, x] w fun e w' => e = .returned (.bool true) ∧ Below w.heap.size w w' := by
  have HL := Lib.hid hv
  obtain ⟨⟨vn, vu, rfl, hS, hB⟩, hsz⟩ := hv
  obtain ⟨q1, cap, rfl, hc, hc2, h⟩ := hS
  obtain ⟨q, cap', rfl, hc', hc2', h'⟩ := hB
  clear h h' hsz
  have HZa := Lib.hid hza
  obtain ⟨aa, ca, rfl, hla, hla2, h⟩ := hza
  clear h
  have HZb := Lib.hid hzb
  obtain ⟨ab, cb, rfl, hlb, hlb2, h⟩ := hzb
  clear h
  have HI := Lib.hid (Bx.new HL.out)
  have HJa : Hid (∀ W, Below w.heap.size w W → RdL W.heap.size W (.agg #[.slice q1 ns.length cap, .slice q up.length cap']) ns up → Calls Try.prog 21 #[.agg #[.slice q1 ns.length cap, .slice q up.length cap'], .slice aa la.length ca] W (fun e w' => ∃ j : Int, e = .returned (.tuple #[.int .i64 j, .int .i64 (lck ns up la).2]) ∧ Below W.heap.size W w')) := fun W hb hW => ljoin_some _ _ ns up la W hW (HZa.out.next hb)
  have HJb : Hid (∀ W, Below w.heap.size w W → RdL W.heap.size W (.agg #[.slice q1 ns.length cap, .slice q up.length cap']) ns up → Calls Try.prog 21 #[.agg #[.slice q1 ns.length cap, .slice q up.length cap'], .slice ab lb.length cb] W (fun e w' => ∃ j : Int, e = .returned (.tuple #[.int .i64 j, .int .i64 (lck ns up lb).2]) ∧ Below W.heap.size W w')) := fun W hb hW => ljoin_some _ _ ns up lb W hW (HZb.out.next hb)
  generalize (lck ns up la).2 = ea at HJa k1
  generalize (lck ns up lb).2 = eb at HJb k2
  go_enter Try.func5, Try.ntmps5
  go_wp2_with (first
    | (go_at_call 8; refine (far_any _ ns up _ HI.out.rd).mono ?_; rintro e w' ⟨rfl, hbn⟩; have HI2 := Lib.hid (HI.out.next hbn); clear HI; have HI := HI2; clear HI2; have hx0 := HI.out.x0; have hx1 := HI.out.x1; clear hbn)
    | (go_at_call 21; (with_reducible refine (HJa.out _ HI.out.bel HI.out.rd).mono ?_); rintro e w' ⟨jHJa, rfl, hbn⟩; clear hx0 hx1; have HI2 := Lib.hid (HI.out.next hbn); clear HI; have HI := HI2; clear HI2; have hx0 := HI.out.x0; have hx1 := HI.out.x1; clear hbn)
    | (go_at_call 21; (with_reducible refine (HJb.out _ HI.out.bel HI.out.rd).mono ?_); rintro e w' ⟨jHJb, rfl, hbn⟩; clear hx0 hx1; have HI2 := Lib.hid (HI.out.next hbn); clear HI; have HI := HI2; clear HI2; have hx0 := HI.out.x0; have hx1 := HI.out.x1; clear hbn)
    | (go_at_call 9; refine (awake4_any _).mono ?_; rintro e w' ⟨rfl, hbn⟩; clear hx0 hx1; have HI2 := Lib.hid (HI.out.next hbn); clear HI; have HI := HI2; clear HI2; have hx0 := HI.out.x0; have hx1 := HI.out.x1; clear hbn))
  go_ret
  exact ⟨ret_bool (by first | rfl | simp), HI.out.bel⟩

/-- What flows, and what does not. -/
theorem fz_of {R : List UInt8} {both : List Nat} {t : Nat} : (flF R both t = none ∧ ∀ k (h : k < both.length), le R both[k] t = true) ∨ ∃ i, flF R both t = some i ∧ ∃ h : i < both.length, le R both[i] t = false ∧ ∀ k (_ : k < i) (hk : k < both.length), le R both[k] t = true := by
  cases e : flF R both t with
  | none =>
    refine .inl ⟨rfl, fun k h => ?_⟩
    have := range_find_none e k h
    rw [fl1_get h] at this
    simpa using this
  | some i =>
    unfold flF at e
    obtain ⟨h1, l1, l2, h2, h3⟩ := List.find?_eq_some_iff_append.1 e
    have hi : i < both.length := List.mem_range.1 (List.mem_of_find?_eq_some e)
    refine .inr ⟨i, rfl, hi, by rw [fl1_get hi] at h1; simpa using h1, fun k hk hkl => ?_⟩
    have hlen : l1.length = i := by
      have h4 : (List.range both.length)[l1.length]? = some i := by rw [h2]; simp
      rw [List.getElem?_range (by
        have := congrArg List.length h2
        rw [List.length_range, List.length_append, List.length_cons] at this
        omega)] at h4
      exact Option.some.inj h4
    have hm : k ∈ l1 := by
      have h5 : (List.range both.length)[k]? = some k := List.getElem?_range hkl
      rw [h2, List.getElem?_append_left (by omega)] at h5
      exact List.mem_of_getElem? h5
    have := h3 k hm
    rw [fl1_get hkl] at this
    simpa using this
structure Ff (up : List UInt8) (both : List Nat) (bo tp jv mv : Nat) : Prop where
  all : ∀ a ∈ both, a < up.length
  bl : bo < up.length
  tl : tp < up.length
  rev : jn (le up) up.length bo both.reverse = jv
  meet : jn (ge up) up.length tp both = mv
  jl : jv < up.length
  le : ∀ t, t < up.length → (le up jv t = true ↔ ∀ a ∈ both, le up a t = true)
theorem ff_of {ns : List ByteArray} {up : List UInt8} {both : List Nat} (hg : GL ns up both) : Ff up both (endF (ge up) up.length up.length) (endF (Go.Proofs.Ytdkljpoecdinjaa.le up) up.length up.length) (jn (Go.Proofs.Ytdkljpoecdinjaa.le up) up.length (endF (ge up) up.length up.length) both) (jn (ge up) up.length (endF (Go.Proofs.Ytdkljpoecdinjaa.le up) up.length up.length) both) := by
  have hn0 : 0 < up.length := by have := hg.good.pos; have := hg.good.len; omega
  have ho := hg.good.ords
  have hb := ho.2.end_lt up.length (Nat.le_refl _) hn0
  have ht := ho.1.end_lt up.length (Nat.le_refl _) hn0
  refine ⟨hg.all, hb, ht, jn_mem ho.1 hb (fun a ha => hg.all a (List.mem_reverse.1 ha)) hg.all fun x => List.mem_reverse, rfl, jn_lt ho.1 hb hg.all, fun t htl => ?_⟩
  rw [jn_le ho.1 hb htl hg.all]
  exact ⟨fun h => h.2, fun h => ⟨ho.2.end_top up.length (Nat.le_refl _) hn0 t htl, h⟩⟩
theorem gl_app {ns : List ByteArray} {up : List UInt8} {la lb : List Nat} (ha : GL ns up la) (hb : GL ns up lb) (h1 : la.length ≤ 32) (h2 : lb.length ≤ 32) : GL ns up (la ++ lb) :=
  ⟨ha.good, by rw [List.length_append]; omega, fun a h => (List.mem_append.1 h).elim (ha.all a) (hb.all a)⟩
theorem rev_get {l : List Nat} {k : Nat} (h : k < l.length) (h2 : l.length - 1 - k < l.length) : l.reverse[k]'(by rw [List.length_reverse]; exact h) = l[l.length - 1 - k] := by
  rw [List.getElem_reverse]

set_option maxRecDepth 100000 in
set_option maxHeartbeats 8000000 in
theorem lawFolds_ok (v u x : Value) (ns : List ByteArray) (up : List UInt8) (la lb : List Nat) (w : World) (hv : RdL w.heap.size w v ns up) (hza : RdN w.heap.size w u la) (hzb : RdN w.heap.size w x lb) (e0 : farB ns up = false) (h1 : la.length ≤ 32) (h2 : lb.length ≤ 32) (hga : GL ns up la) (hgb : GL ns up lb) (hNa : NilC u) (hNb : NilC x) :
    Calls Try.prog 5 #[v, u, x] w fun e w' => e = .returned (.bool true) ∧ Below w.heap.size w w' := by
  have HL := Lib.hid hv
  obtain ⟨⟨vn, vu, rfl, hS, hB⟩, hsz⟩ := hv
  obtain ⟨q1, cap, rfl, hc, hc2, h⟩ := hS
  obtain ⟨q, cap', rfl, hc', hc2', h'⟩ := hB
  clear h h' hsz
  have HZa := Lib.hid hza
  obtain ⟨aa, ca, rfl, hla, hla2, h⟩ := hza
  clear h
  have HZb := Lib.hid hzb
  obtain ⟨ab, cb, rfl, hlb, hlb2, h⟩ := hzb
  clear h
  have HI := Lib.hid (Bx.new HL.out)
  have hGa := Lib.hid hga
  have hGb := Lib.hid hgb
  have hG0 := gl_app hga hgb h1 h2
  have HG := Lib.hid hG0
  have hu8 : up.length ≤ 8 := by have := hga.good.most; have := hga.good.len; omega
  have HF := Lib.hid (ff_of hG0)
  have HRv : Hid (J (le up) up.length (jn (le up) up.length (endF (ge up) up.length up.length) la) (jn (le up) up.length (endF (ge up) up.length up.length) lb) = jn (le up) up.length (endF (ge up) up.length up.length) (la ++ lb)) := (jn_app hga.good.ords.1 HF.out.bl hga.all hgb.all).symm
  have hjal := jn_lt hga.good.ords.1 HF.out.bl hga.all
  have hjbl := jn_lt hga.good.ords.1 HF.out.bl hgb.all
  have HJ1 : Hid (∀ W, Below w.heap.size w W → RdL W.heap.size W (.agg #[.slice q1 ns.length cap, .slice q up.length cap']) ns up → Calls Try.prog 21 #[.agg #[.slice q1 ns.length cap, .slice q up.length cap'], .slice aa la.length ca] W (fun e w' => e = .returned (.tuple #[.int .i64 (jn (le up) up.length (endF (ge up) up.length up.length) la : Nat), .int .i64 0]) ∧ Below W.heap.size W w')) := fun W hb hW => ljoin_ok _ _ ns up la W hW (HZa.out.next hb) hGa.out
  have HJ2 : Hid (∀ W, Below w.heap.size w W → RdL W.heap.size W (.agg #[.slice q1 ns.length cap, .slice q up.length cap']) ns up → Calls Try.prog 21 #[.agg #[.slice q1 ns.length cap, .slice q up.length cap'], .slice ab lb.length cb] W (fun e w' => e = .returned (.tuple #[.int .i64 (jn (le up) up.length (endF (ge up) up.length up.length) lb : Nat), .int .i64 0]) ∧ Below W.heap.size W w')) := fun W hb hW => ljoin_ok _ _ ns up lb W hW (HZb.out.next hb) hGb.out
  have HJ3 : Hid (∀ W v, RdL W.heap.size W (.agg #[.slice q1 ns.length cap, .slice q up.length cap']) ns up → RdN W.heap.size W v (la ++ lb) → Calls Try.prog 21 #[.agg #[.slice q1 ns.length cap, .slice q up.length cap'], v] W (fun e w' => e = .returned (.tuple #[.int .i64 (jn (le up) up.length (endF (ge up) up.length up.length) (la ++ lb) : Nat), .int .i64 0]) ∧ Below W.heap.size W w')) := fun W v hW hr => ljoin_ok _ _ ns up _ W hW hr HG.out
  have HM3 : Hid (∀ W v, RdL W.heap.size W (.agg #[.slice q1 ns.length cap, .slice q up.length cap']) ns up → RdN W.heap.size W v (la ++ lb) → Calls Try.prog 22 #[.agg #[.slice q1 ns.length cap, .slice q up.length cap'], v] W (fun e w' => e = .returned (.tuple #[.int .i64 (jn (ge up) up.length (endF (le up) up.length up.length) (la ++ lb) : Nat), .int .i64 0]) ∧ Below W.heap.size W w')) := fun W v hW hr => lmeet_ok _ _ ns up _ W hW hr HG.out
  have HRJ : Hid (∀ W, RdL W.heap.size W (.agg #[.slice q1 ns.length cap, .slice q up.length cap']) ns up → Calls Try.prog 23 #[.agg #[.slice q1 ns.length cap, .slice q up.length cap'], .int .i64 (jn (le up) up.length (endF (ge up) up.length up.length) la : Nat), .int .i64 (jn (le up) up.length (endF (ge up) up.length up.length) lb : Nat)] W (fun e w' => e = .returned (.tuple #[.int .i64 (jn (le up) up.length (endF (ge up) up.length up.length) (la ++ lb) : Nat), .int .i64 0]) ∧ Below W.heap.size W w')) := fun W hW => by rw [← HRv.out]; exact rjoin_ok _ ns up _ _ W hW hGa.out.good hjal hjbl
  have HBo : Hid (∀ W, RdL W.heap.size W (.agg #[.slice q1 ns.length cap, .slice q up.length cap']) ns up → Calls Try.prog 24 #[.agg #[.slice q1 ns.length cap, .slice q up.length cap']] W (fun e w' => e = .returned (.tuple #[.int .i64 (endF (ge up) up.length up.length : Nat), .int .i64 0]) ∧ Below W.heap.size W w')) := fun W hW => rbottom_ok _ ns up W hW hGa.out.good
  have HTo : Hid (∀ W, RdL W.heap.size W (.agg #[.slice q1 ns.length cap, .slice q up.length cap']) ns up → Calls Try.prog 25 #[.agg #[.slice q1 ns.length cap, .slice q up.length cap']] W (fun e w' => e = .returned (.tuple #[.int .i64 (endF (le up) up.length up.length : Nat), .int .i64 0]) ∧ Below W.heap.size W w')) := fun W hW => rtop_ok _ ns up W hW hGa.out.good
  clear HRv hjal hjbl hG0 hga hgb
  generalize jn (le up) up.length (endF (ge up) up.length up.length) (la ++ lb) = jv at HJ3 HRJ HF
  generalize jn (le up) up.length (endF (ge up) up.length up.length) la = ja at HJ1 HRJ
  generalize jn (le up) up.length (endF (ge up) up.length up.length) lb = jb at HJ2 HRJ
  generalize jn (ge up) up.length (endF (le up) up.length up.length) (la ++ lb) = mv at HM3 HF
  generalize endF (ge up) up.length up.length = bo at HBo HF
  generalize endF (le up) up.length up.length = tp at HTo HF
  go_enter Try.func5, Try.ntmps5
  go_wp2_with (first
    | (go_at_call 8; refine (far_any _ ns up _ HI.out.rd).mono ?_; rintro e w' ⟨rfl, hbn⟩; have HI2 := Lib.hid (HI.out.next hbn); clear HI; have HI := HI2; clear HI2; have hx0 := HI.out.x0; have hx1 := HI.out.x1; clear hbn)
    | (go_at_call 21; (with_reducible refine (HJ1.out _ HI.out.bel HI.out.rd).mono ?_); rintro e wa ⟨rfl, hbn⟩; clear hx0 hx1; have HI2 := Lib.hid (HI.out.next hbn); clear HI; have HI := HI2; clear HI2; have hx0 := HI.out.x0; have hx1 := HI.out.x1; clear hbn)
    | (go_at_call 21; (with_reducible refine (HJ2.out _ HI.out.bel HI.out.rd).mono ?_); rintro e wb ⟨rfl, hbn⟩; clear hx0 hx1; have HI2 := Lib.hid (HI.out.next hbn); clear HI; have HI := HI2; clear HI2; have hx0 := HI.out.x0; have hx1 := HI.out.x1; clear hbn; have HOw : Hid (Own wb.heap.size (wb.alloc (.cells #[] 3)) (.slice (some ⟨wb.heap.size, 0, none⟩) 0 0) []) := World.ownsRow_lit (e := 3) (size := 1) (base := wb.heap.size) wb #[] 0 (Nat.le_refl _) (by decide) (by decide); have HIb := HI)
    | (at_builtin; refine wpList_append_ns (by rfl) _ _ rfl wb.heap.size _ ([] ++ la) rfl hown4 _ lb rfl _ (HZb.out.below (HIb.out.bel.trans (hb4.mono HIb.out.bel.size))) hNb (by simp; omega) hb4.size ?_; intro v5 w5 hown5 hgrow5; have hb5 := hb4.grown hgrow5 hb4.size (fun j e => (World.ownsRow.lt hown4 j e).1); have hrd5 := Own.rd hown5; obtain ⟨ba, nb, bc, rfl⟩ := ownsRow_slice hown5; have hx0 := (HIb.out.next hb5).x0; have hx1 := (HIb.out.next hb5).x1)
    | (at_builtin; refine wpList_append_ns (by rfl) _ _ rfl wb.heap.size _ [] rfl HOw.out _ la rfl _ (HZa.out.below (HIb.out.bel.trans ((bel1 wb _).mono HIb.out.bel.size))) hNa (by simp; omega) (by simp) ?_; intro v4 w4 hown4 hgrow4; clear hx0 hx1 HI; have hb4 : Below wb.heap.size wb w4 := ((Below.refl wb.heap.size wb).alloc (Nat.le_refl _) _).grown hgrow4 (by simp) (fun j e => (World.ownsRow.lt HOw.out j e).1)))
  have hrd6 := hrd5
  rw [List.nil_append] at hrd6
  have HBl : Hid ((la ++ lb).length ≤ 64) := by unfold Hid; rw [List.length_append]; omega
  clear hrd5 hown5 hgrow5 hown4 hgrow4 HOw
  generalize la ++ lb = both at hrd6 HJ3 HM3 HF HBl HG
  obtain ⟨a7, c7, e7, V1, V2, V3⟩ := id hrd6
  injection e7 with e8 e9 e10
  clear V1 V2 V3 e8 e10
  subst e9
  have HK : Hid (Kl w (.slice q1 ns.length cap) (.slice q up.length cap') (.slice ba both.length bc) ns up both w5) := ⟨HIb.out.next hb5, hrd6⟩
  clear HIb hb5 hb4 hrd6
  have hb64 := HBl.out
  refine (HJ3.out _ _ HK.out.1.rd HK.out.2).mono ?_
  rintro e w6 ⟨rfl, hbn⟩
  clear hx0 hx1; have HK2 := Lib.hid (kl_next HK.out hbn); clear HK; have HK := HK2; clear HK2; have hx0 := HK.out.1.x0; have hx1 := HK.out.1.x1; 
  clear hbn
  go_wp2_with (first
    | (go_at_call 22; refine (HM3.out _ _ HK.out.1.rd HK.out.2).mono ?_; rintro e w' ⟨rfl, hbn⟩; clear hx0 hx1; have HK2 := Lib.hid (kl_next HK.out hbn); clear HK; have HK := HK2; clear HK2; have hx0 := HK.out.1.x0; have hx1 := HK.out.1.x1; clear hbn)
    | (go_at_call 23; refine (HRJ.out _ HK.out.1.rd).mono ?_; rintro e w' ⟨rfl, hbn⟩; clear hx0 hx1; have HK2 := Lib.hid (kl_next HK.out hbn); clear HK; have HK := HK2; clear HK2; have hx0 := HK.out.1.x0; have hx1 := HK.out.1.x1; clear hbn)
    | (go_at_call 24; refine (HBo.out _ HK.out.1.rd).mono ?_; rintro e w' ⟨rfl, hbn⟩; clear hx0 hx1; have HK2 := Lib.hid (kl_next HK.out hbn); clear HK; have HK := HK2; clear HK2; have hx0 := HK.out.1.x0; have hx1 := HK.out.1.x1; clear hbn)
    | (go_at_call 25; refine (HTo.out _ HK.out.1.rd).mono ?_; rintro e w' ⟨rfl, hbn⟩; clear hx0 hx1; have HK2 := Lib.hid (kl_next HK.out hbn); clear HK; have HK := HK2; clear HK2; have hx0 := HK.out.1.x0; have hx1 := HK.out.1.x1; clear hbn))
  clear hx0 hx1 HJ3 HM3 HRJ HBo HTo
  go_loopg [16, 18, 20] both.length (fun g l h i W => ∃ k lo hi : Nat, k + g = both.length ∧ i = .int .i64 k ∧ l = .int .i64 lo ∧ h = .int .i64 hi ∧ lo < up.length ∧ hi < up.length ∧ Kl w (.slice q1 ns.length cap) (.slice q up.length cap') (.slice ba both.length bc) ns up both W ∧ Hid (jn (le up) up.length bo (both.reverse.take k) = lo) ∧ Hid (jn (ge up) up.length tp (both.take k) = hi))
  case atStart => exact ⟨0, bo, tp, by omega, rfl, rfl, rfl, HF.out.bl, HF.out.tl, HK.out, rfl, rfl⟩
  case round =>
    clear HK
    obtain ⟨k, lo, hi, hkg, rfl, rfl, rfl, hlo, hhi, hkl, hqa, hqb⟩ := hrel
    have HK := Lib.hid hkl; clear hkl
    cases gk with
    | zero =>
      have hkz : ¬ ((k : Int) < (both.length : Int)) := by omega
      have hloe : lo = jv := by
        have h := hqa.out
        rw [List.take_of_length_le (by rw [List.length_reverse]; omega), HF.out.rev] at h
        exact h.symm
      have hhie : hi = mv := by
        have h := hqb.out
        rw [List.take_of_length_le (by omega), HF.out.meet] at h
        exact h.symm
      subst hloe hhie
      clear hqa hqb
      go_wp2_with fail
      go_loopg [22] ns.length (fun g i W => ∃ t : Nat, t + g = ns.length ∧ i = .int .i64 t ∧ Kl w (.slice q1 ns.length cap) (.slice q up.length cap') (.slice ba both.length bc) ns up both W)
      case atStart => exact ⟨0, by omega, rfl, HK.out⟩
      case round =>
        clear HK
        obtain ⟨t, htg, rfl, hkl⟩ := hrel
        have HK := Lib.hid hkl; clear hkl
        have hx0 := HK.out.1.x0
        have hx1 := HK.out.1.x1
        cases gk with
        | zero =>
          have htz : ¬ ((t : Int) < (ns.length : Int)) := by omega
          go_wp2_with (go_at_call 9; refine (awake4_any _).mono ?_; rintro e w' ⟨rfl, hbn⟩; have HK2 := Lib.hid (kl_next HK.out hbn); clear HK; have HK := HK2; clear HK2; clear hbn)
          go_ret
          exact ⟨ret_bool (by first | rfl | simp), HK.out.1.bel⟩
        | succ g7 =>
          have htlt : (t : Int) < (ns.length : Int) := by omega
          have htu : t < up.length := by have := HG.out.good.len; omega
          rcases fz_of (R := up) (both := both) (t := t) with ⟨he, hall⟩ | ⟨i9, he, hi9, hle9, hall⟩
          · have hjt : le up lo t = true := (HF.out.le t htu).2 fun a ha => by obtain ⟨i, hi, e⟩ := List.getElem_of_mem ha; rw [← e]; exact hall i hi
            have HBj : Hid (∀ W, RdL W.heap.size W (.agg #[.slice q1 ns.length cap, .slice q up.length cap']) ns up → Calls Try.prog 28 #[.agg #[.slice q1 ns.length cap, .slice q up.length cap'], .int .i64 (lo : Nat), .int .i64 (t : Nat)] W fun e w' => e = .returned (.bool true) ∧ Below W.heap.size W w') := fun W hW => by have := rbel_any _ ns up lo t W hW (by omega) (by omega); rwa [hjt] at this
            clear hjt
            have HFl : Hid (∀ W v, RdL W.heap.size W (.agg #[.slice q1 ns.length cap, .slice q up.length cap']) ns up → RdN W.heap.size W v both → Calls Try.prog 27 #[.agg #[.slice q1 ns.length cap, .slice q up.length cap'], v, .int .i64 (t : Nat)] W (fun e w' => e = .returned (.tuple #[.int .i64 0, .int .i64 0]) ∧ Below W.heap.size W w')) := fun W v hW hr => by have := lflows_ok _ v ns up both t W hW hr HG.out htu; rwa [flV_no he] at this
            clear he
            go_wp2_with ((go_at_call 27; refine (HFl.out _ _ HK.out.1.rd HK.out.2).mono ?_; rintro e w' ⟨rfl, hbn⟩; clear hx0 hx1; have HK2 := Lib.hid (kl_next HK.out hbn); clear HK; have HK := HK2; clear HK2; have hx0 := HK.out.1.x0; have hx1 := HK.out.1.x1; clear hbn))
            clear hx0 hx1
            refine wp_region_held_drew (S := (fun W => Kl w (.slice q1 ns.length cap) (.slice q up.length cap') (.slice ba both.length bc) ns up both W ∧ W.cell? ⟨w.heap.size, 0, none⟩ = some (.slice q1 ns.length cap) ∧ W.cell? ⟨w.heap.size, 1, none⟩ = some (.slice q up.length cap'))) (by kernel_rfl) ?_ (fun hHeld => ?_)
            · exact kl3d HK.out
            refine wpAnyH_take (i := 0) (v := ?_) rfl (by kernel_rfl) (by kernel_rfl) (by kernel_rfl) (fun _ _ _ h => h) (Or.inl ⟨by rfl, ?_⟩) (by assumption) ?_
            rotate_left
            · ((intro w0 hSw); (try dsimp only at hSw); go_simp; (try with_reducible rfl))
            change wpAnyH _ _ _ _ _ _ _ (Act.put _ (some 169) _) _
            try simp only [Act.put, List.setIfInBounds_toArray, List.set_cons_zero, List.set_cons_succ]
            refine wpAnyH_take (i := 1) (v := ?_) rfl (by kernel_rfl) (by kernel_rfl) (by kernel_rfl) (fun _ _ _ h => h) (Or.inl ⟨by rfl, ?_⟩) (by assumption) ?_
            rotate_left
            · ((intro w0 hSw); (try dsimp only at hSw); go_simp; (try with_reducible rfl))
            change wpAnyH _ _ _ _ _ _ _ (Act.put _ (some 170) _) _
            try simp only [Act.put, List.setIfInBounds_toArray, List.set_cons_zero, List.set_cons_succ]
            refine wpAnyH_take (i := 2) (v := ?_) rfl (by kernel_rfl) (by kernel_rfl) (by kernel_rfl) (fun _ _ _ h => h) (Or.inl ⟨by rfl, ?_⟩) (by assumption) ?_
            rotate_left
            · ((intro w0 hSw); (try dsimp only at hSw); go_simp; (try with_reducible rfl))
            change wpAnyH _ _ _ _ _ _ _ (Act.put _ (some 171) _) _
            try simp only [Act.put, List.setIfInBounds_toArray, List.set_cons_zero, List.set_cons_succ]
            refine wpAnyH_take (i := 3) (v := ?_) rfl (by kernel_rfl) (by kernel_rfl) (by kernel_rfl) (fun _ _ _ h => h) (Or.inl ⟨by rfl, ?_⟩) (by assumption) ?_
            rotate_left
            · ((intro w0 hSw); (try dsimp only at hSw); go_simp; (try with_reducible rfl))
            change wpAnyH _ _ _ _ _ _ _ (Act.put _ (some 172) _) _
            try simp only [Act.put, List.setIfInBounds_toArray, List.set_cons_zero, List.set_cons_succ]
            refine wpAnyH_take (i := 4) (v := ?_) rfl (by kernel_rfl) (by kernel_rfl) (by kernel_rfl) (fun _ _ _ h => h) (Or.inl ⟨by rfl, ?_⟩) (by assumption) ?_
            rotate_left
            · ((intro w0 hSw); (try dsimp only at hSw); go_simp; (try with_reducible rfl))
            change wpAnyH _ _ _ _ _ _ _ (Act.put _ (some 173) _) _
            try simp only [Act.put, List.setIfInBounds_toArray, List.set_cons_zero, List.set_cons_succ]
            refine wpAnyH_ready (rs := [5]) (by kernel_rfl) (by simp) ?_
            refine AllReadyH.cons rfl (fun K hK => ?_) AllReadyH.nil
            go_simp
            go_at_call 28; (with_reducible refine (HBj.out _ (kl_rd (by assumption))).mono ?_); rintro e wn ⟨rfl, hbn⟩
            refine hK.out _ _ ?_ (fun hHeld2 => ?_)
            · exact kl3n (by assumption) hbn
            clear hK K hHeld
            have hHeld := hHeld2; clear hHeld2
            try change wpAnyH _ _ _ _ _ _ _ (Act.put _ (some 174) _) _
            try simp only [Act.put, List.setIfInBounds_toArray, List.set_cons_zero, List.set_cons_succ]
            refine wpAnyH_take (i := 6) (v := ?_) rfl (by kernel_rfl) (by kernel_rfl) (by kernel_rfl) (fun _ _ _ h => h) (Or.inl ⟨by rfl, ?_⟩) (by assumption) ?_
            rotate_left
            · ((intro w0 hSw); (try dsimp only at hSw); go_simp; (try with_reducible rfl))
            change wpAnyH _ _ _ _ _ _ _ (Act.put _ (some 175) _) _
            try simp only [Act.put, List.setIfInBounds_toArray, List.set_cons_zero, List.set_cons_succ]
            refine wpAnyH_take (i := 7) (v := ?_) rfl (by kernel_rfl) (by kernel_rfl) (by kernel_rfl) (fun _ _ _ h => h) (Or.inl ⟨by rfl, ?_⟩) (by assumption) ?_
            rotate_left
            · ((intro w0 hSw); (try dsimp only at hSw); go_simp; (try with_reducible rfl))
            change wpAnyH _ _ _ _ _ _ _ (Act.put _ (some 176) _) _
            try simp only [Act.put, List.setIfInBounds_toArray, List.set_cons_zero, List.set_cons_succ]
            refine wpAnyH_take (i := 8) (v := ?_) rfl (by kernel_rfl) (by kernel_rfl) (by kernel_rfl) (fun _ _ _ h => h) (Or.inl ⟨by rfl, ?_⟩) (by assumption) ?_
            rotate_left
            · ((intro w0 hSw); (try dsimp only at hSw); go_simp; (try with_reducible rfl))
            change wpAnyH _ _ _ _ _ _ _ (Act.put _ (some 177) _) _
            try simp only [Act.put, List.setIfInBounds_toArray, List.set_cons_zero, List.set_cons_succ]
            refine wpAnyH_take (i := 9) (v := ?_) rfl (by kernel_rfl) (by kernel_rfl) (by kernel_rfl) (fun _ _ _ h => h) (Or.inl ⟨by rfl, ?_⟩) (by assumption) ?_
            rotate_left
            · ((intro w0 hSw); (try dsimp only at hSw); go_simp; (try with_reducible rfl))
            change wpAnyH _ _ _ _ _ _ _ (Act.put _ (some 178) _) _
            try simp only [Act.put, List.setIfInBounds_toArray, List.set_cons_zero, List.set_cons_succ]
            refine wpAnyH_take (i := 10) (v := ?_) rfl (by kernel_rfl) (by kernel_rfl) (by kernel_rfl) (fun _ _ _ h => h) (Or.inl ⟨by rfl, ?_⟩) (by assumption) ?_
            rotate_left
            · ((intro w0 hSw); (try dsimp only at hSw); go_simp; (try with_reducible rfl))
            change wpAnyH _ _ _ _ _ _ _ (Act.put _ (some 179) _) _
            try simp only [Act.put, List.setIfInBounds_toArray, List.set_cons_zero, List.set_cons_succ]
            refine wpAnyH_take (i := 11) (v := undef) rfl (by kernel_rfl) (by kernel_rfl) (by kernel_rfl) (fun _ _ _ h => h) (Or.inr ⟨by rfl, rfl⟩) (by assumption) ?_
            change wpAnyH _ _ _ _ _ _ _ (Act.put _ (some 180) _) _
            try simp only [Act.put, List.setIfInBounds_toArray, List.set_cons_zero, List.set_cons_succ]
            refine wpAnyH_take (i := 12) (v := undef) rfl (by kernel_rfl) (by kernel_rfl) (by kernel_rfl) (fun _ _ _ h => h) (Or.inr ⟨by rfl, rfl⟩) (by assumption) ?_
            change wpAnyH _ _ _ _ _ _ _ (Act.put _ (some 181) _) _
            try simp only [Act.put, List.setIfInBounds_toArray, List.set_cons_zero, List.set_cons_succ]
            refine wpAnyH_take (i := 13) (v := undef) rfl (by kernel_rfl) (by kernel_rfl) (by kernel_rfl) (fun _ _ _ h => h) (Or.inr ⟨by rfl, rfl⟩) (by assumption) ?_
            change wpAnyH _ _ _ _ _ _ _ (Act.put _ (some 182) _) _
            try simp only [Act.put, List.setIfInBounds_toArray, List.set_cons_zero, List.set_cons_succ]
            refine wpAnyH_take (i := 14) (v := undef) rfl (by kernel_rfl) (by kernel_rfl) (by kernel_rfl) (fun _ _ _ h => h) (Or.inr ⟨by rfl, rfl⟩) (by assumption) ?_
            change wpAnyH _ _ _ _ _ _ _ (Act.put _ (some 183) _) _
            try simp only [Act.put, List.setIfInBounds_toArray, List.set_cons_zero, List.set_cons_succ]
            refine wpAnyH_take (i := 15) (v := undef) rfl (by kernel_rfl) (by kernel_rfl) (by kernel_rfl) (fun _ _ _ h => h) (Or.inr ⟨by rfl, rfl⟩) (by assumption) ?_
            change wpAnyH _ _ _ _ _ _ _ (Act.put _ (some 184) _) _
            try simp only [Act.put, List.setIfInBounds_toArray, List.set_cons_zero, List.set_cons_succ]
            refine wpAnyH_take (i := 16) (v := undef) rfl (by kernel_rfl) (by kernel_rfl) (by kernel_rfl) (fun _ _ _ h => h) (Or.inr ⟨by rfl, rfl⟩) (by assumption) ?_
            change wpAnyH _ _ _ _ _ _ _ (Act.put _ (some 185) _) _
            try simp only [Act.put, List.setIfInBounds_toArray, List.set_cons_zero, List.set_cons_succ]
            refine wpAnyH_take (i := 17) (v := undef) rfl (by kernel_rfl) (by kernel_rfl) (by kernel_rfl) (fun _ _ _ h => h) (Or.inr ⟨by rfl, rfl⟩) (by assumption) ?_
            change wpAnyH _ _ _ _ _ _ _ (Act.put _ (some 186) _) _
            try simp only [Act.put, List.setIfInBounds_toArray, List.set_cons_zero, List.set_cons_succ]
            refine wpAnyH_take (i := 18) (v := undef) rfl (by kernel_rfl) (by kernel_rfl) (by kernel_rfl) (fun _ _ _ h => h) (Or.inr ⟨by rfl, rfl⟩) (by assumption) ?_
            change wpAnyH _ _ _ _ _ _ _ (Act.put _ (some 187) _) _
            try simp only [Act.put, List.setIfInBounds_toArray, List.set_cons_zero, List.set_cons_succ]
            refine wpAnyH_take (i := 19) (v := undef) rfl (by kernel_rfl) (by kernel_rfl) (by kernel_rfl) (fun _ _ _ h => h) (Or.inr ⟨by rfl, rfl⟩) (by assumption) ?_
            change wpAnyH _ _ _ _ _ _ _ (Act.put _ (some 188) _) _
            try simp only [Act.put, List.setIfInBounds_toArray, List.set_cons_zero, List.set_cons_succ]
            refine wpAnyH_take (i := 20) (v := undef) rfl (by kernel_rfl) (by kernel_rfl) (by kernel_rfl) (fun _ _ _ h => h) (Or.inr ⟨by rfl, rfl⟩) (by assumption) ?_
            change wpAnyH _ _ _ _ _ _ _ (Act.put _ (some 189) _) _
            try simp only [Act.put, List.setIfInBounds_toArray, List.set_cons_zero, List.set_cons_succ]
            refine wpAnyH_take (i := 21) (v := undef) rfl (by kernel_rfl) (by kernel_rfl) (by kernel_rfl) (fun _ _ _ h => h) (Or.inr ⟨by rfl, rfl⟩) (by assumption) ?_
            change wpAnyH _ _ _ _ _ _ _ (Act.put _ (some 190) _) _
            try simp only [Act.put, List.setIfInBounds_toArray, List.set_cons_zero, List.set_cons_succ]
            refine wpAnyH_take (i := 22) (v := undef) rfl (by kernel_rfl) (by kernel_rfl) (by kernel_rfl) (fun _ _ _ h => h) (Or.inr ⟨by rfl, rfl⟩) (by assumption) ?_
            change wpAnyH _ _ _ _ _ _ _ (Act.put _ (some 191) _) _
            try simp only [Act.put, List.setIfInBounds_toArray, List.set_cons_zero, List.set_cons_succ]
            refine wpAnyH_take (i := 23) (v := undef) rfl (by kernel_rfl) (by kernel_rfl) (by kernel_rfl) (fun _ _ _ h => h) (Or.inr ⟨by rfl, rfl⟩) (by assumption) ?_
            change wpAnyH _ _ _ _ _ _ _ (Act.put _ (some 192) _) _
            try simp only [Act.put, List.setIfInBounds_toArray, List.set_cons_zero, List.set_cons_succ]
            refine wpAnyH_take (i := 24) (v := undef) rfl (by kernel_rfl) (by kernel_rfl) (by kernel_rfl) (fun _ _ _ h => h) (Or.inr ⟨by rfl, rfl⟩) (by assumption) ?_
            change wpAnyH _ _ _ _ _ _ _ (Act.put _ (some 193) _) _
            try simp only [Act.put, List.setIfInBounds_toArray, List.set_cons_zero, List.set_cons_succ]
            refine wpAnyH_take (i := 25) (v := undef) rfl (by kernel_rfl) (by kernel_rfl) (by kernel_rfl) (fun _ _ _ h => h) (Or.inr ⟨by rfl, rfl⟩) (by assumption) ?_
            change wpAnyH _ _ _ _ _ _ _ (Act.put _ (some 194) _) _
            try simp only [Act.put, List.setIfInBounds_toArray, List.set_cons_zero, List.set_cons_succ]
            refine wpAnyH_take (i := 26) (v := undef) rfl (by kernel_rfl) (by kernel_rfl) (by kernel_rfl) (fun _ _ _ h => h) (Or.inr ⟨by rfl, rfl⟩) (by assumption) ?_
            change wpAnyH _ _ _ _ _ _ _ (Act.put _ (some 195) _) _
            try simp only [Act.put, List.setIfInBounds_toArray, List.set_cons_zero, List.set_cons_succ]
            refine wpAnyH_take (i := 27) (v := undef) rfl (by kernel_rfl) (by kernel_rfl) (by kernel_rfl) (fun _ _ _ h => h) (Or.inr ⟨by rfl, rfl⟩) (by assumption) ?_
            change wpAnyH _ _ _ _ _ _ _ (Act.put _ (some 196) _) _
            try simp only [Act.put, List.setIfInBounds_toArray, List.set_cons_zero, List.set_cons_succ]
            refine wpAnyH_take (i := 28) (v := undef) rfl (by kernel_rfl) (by kernel_rfl) (by kernel_rfl) (fun _ _ _ h => h) (Or.inr ⟨by rfl, rfl⟩) (by assumption) ?_
            change wpAnyH _ _ _ _ _ _ _ (Act.put _ (some 197) _) _
            try simp only [Act.put, List.setIfInBounds_toArray, List.set_cons_zero, List.set_cons_succ]
            refine wpAnyH_take (i := 29) (v := undef) rfl (by kernel_rfl) (by kernel_rfl) (by kernel_rfl) (fun _ _ _ h => h) (Or.inr ⟨by rfl, rfl⟩) (by assumption) ?_
            change wpAnyH _ _ _ _ _ _ _ (Act.put _ (some 198) _) _
            try simp only [Act.put, List.setIfInBounds_toArray, List.set_cons_zero, List.set_cons_succ]
            refine wpAnyH_take (i := 30) (v := undef) rfl (by kernel_rfl) (by kernel_rfl) (by kernel_rfl) (fun _ _ _ h => h) (Or.inr ⟨by rfl, rfl⟩) (by assumption) ?_
            change wpAnyH _ _ _ _ _ _ _ (Act.put _ (some 199) _) _
            try simp only [Act.put, List.setIfInBounds_toArray, List.set_cons_zero, List.set_cons_succ]
            refine wpAnyH_take (i := 31) (v := undef) rfl (by kernel_rfl) (by kernel_rfl) (by kernel_rfl) (fun _ _ _ h => h) (Or.inr ⟨by rfl, rfl⟩) (by assumption) ?_
            change wpAnyH _ _ _ _ _ _ _ (Act.put _ (some 200) _) _
            try simp only [Act.put, List.setIfInBounds_toArray, List.set_cons_zero, List.set_cons_succ]
            refine wpAnyH_take (i := 32) (v := ?_) rfl (by kernel_rfl) (by kernel_rfl) (by kernel_rfl) (fun _ _ _ h => h) (Or.inl ⟨by rfl, ?_⟩) (by assumption) ?_
            rotate_left
            · ((intro w0 hSw); (try dsimp only at hSw); go_simp; (try with_reducible rfl))
            change wpAnyH _ _ _ _ _ _ _ (Act.put _ (some 201) _) _
            try simp only [Act.put, List.setIfInBounds_toArray, List.set_cons_zero, List.set_cons_succ]
            refine wpAnyH_take (i := 33) (v := ?_) rfl (by kernel_rfl) (by kernel_rfl) (by kernel_rfl) (fun _ _ _ h => h) (Or.inl ⟨by rfl, ?_⟩) (by assumption) ?_
            rotate_left
            · ((intro w0 hSw); (try dsimp only at hSw); go_simp; (try with_reducible rfl))
            change wpAnyH _ _ _ _ _ _ _ (Act.put _ (some 202) _) _
            try simp only [Act.put, List.setIfInBounds_toArray, List.set_cons_zero, List.set_cons_succ]
            refine wpAnyH_done (by kernel_rfl) ?_ _
            have HE := Lib.hid (by assumption : Kl _ _ _ _ _ _ _ _ ∧ _).1
            clear HK
            have HK := HE
            clear HE
            go_wp2_with fail
            go_loopg [25] both.length (fun g k W => ∃ m : Nat, m + g = both.length ∧ k = .int .i64 m ∧ Kl w (.slice q1 ns.length cap) (.slice q up.length cap') (.slice ba both.length bc) ns up both W)
            case atStart => exact ⟨0, by omega, rfl, HK.out⟩
            case round =>
              clear HK
              obtain ⟨m, hmg, rfl, hkl⟩ := hrel
              have HK := Lib.hid hkl; clear hkl
              cases gk with
              | zero =>
                have hmz : ¬ ((m : Int) < (both.length : Int)) := by omega
                go_wp2_with fail
                go_roundg g7
                case measure => omega
                case rel => exact ⟨t + 1, by omega, by go_num, HK.out⟩
              | succ g8 =>
                have hmlt : (m : Int) < (both.length : Int) := by omega
                have hm' : m < both.length := by omega
                obtain ⟨bb, ob, rfl, V7, V8⟩ := HK.out.2.at m hm'
                clear V7 V8
                have hyl := HF.out.all both[m] (List.getElem_mem hm')
                have HT := Lib.hid (hall m hm')
                obtain ⟨y, hye⟩ : ∃ y, both[m] = y := ⟨_, rfl⟩
                have HYe := Lib.hid hye
                rw [hye] at hyl HT
                clear hye
                have HB1 : Hid (∀ W, RdL W.heap.size W (.agg #[.slice q1 ns.length cap, .slice q up.length cap']) ns up → Calls Try.prog 28 #[.agg #[.slice q1 ns.length cap, .slice q up.length cap'], .int .i64 (y : Nat), .int .i64 (t : Nat)] W fun e w' => e = .returned (.bool true) ∧ Below W.heap.size W w') := fun W hW => by have := rbel_any _ ns up y t W hW (by omega) (by omega); rwa [HT.out] at this
                go_wp2_with fail
                have hS := HK.out
                clear HK
                go_region_held3 (fun W => Kl w (.slice q1 ns.length cap) (.slice q up.length cap') (.slice (some ⟨bb, ob, none⟩) both.length bc) ns up both W ∧ W.cell? ⟨w.heap.size, 0, none⟩ = some (.slice q1 ns.length cap) ∧ W.cell? ⟨w.heap.size, 1, none⟩ = some (.slice q up.length cap') ∧ W.cell? ⟨bb, ob + m, none⟩ = some (.int .i64 (y : Int)) ∧ W.cell? ⟨bb, ob + m, none⟩ = some (.int .i64 (y : Int)))
                  ((first | exact kc5n (by assumption) hbn hm' hm' HYe.out HYe.out | exact kc5d hS hm' hm' HYe.out HYe.out))
                  ((go_at_call 28; refine (HB1.out _ (kl_rd (by assumption))).mono ?_; rintro e wn ⟨rfl, hbn⟩))
                have HE := Lib.hid (by assumption : Kl _ _ _ _ _ _ _ _ ∧ _).1
                go_wp2_with fail
                go_roundg g8
                case measure => omega
                case rel => exact ⟨m + 1, by omega, by go_num, HE.out⟩
          · have hjt : le up lo t = false := by
              rw [← Bool.not_eq_true, HF.out.le t htu]
              intro h
              rw [h _ (List.getElem_mem hi9)] at hle9
              cases hle9
            have HBj : Hid (∀ W, RdL W.heap.size W (.agg #[.slice q1 ns.length cap, .slice q up.length cap']) ns up → Calls Try.prog 28 #[.agg #[.slice q1 ns.length cap, .slice q up.length cap'], .int .i64 (lo : Nat), .int .i64 (t : Nat)] W fun e w' => e = .returned (.bool false) ∧ Below W.heap.size W w') := fun W hW => by have := rbel_any _ ns up lo t W hW (by omega) (by omega); rwa [hjt] at this
            clear hjt
            have HFl : Hid (∀ W v, RdL W.heap.size W (.agg #[.slice q1 ns.length cap, .slice q up.length cap']) ns up → RdN W.heap.size W v both → Calls Try.prog 27 #[.agg #[.slice q1 ns.length cap, .slice q up.length cap'], v, .int .i64 (t : Nat)] W (fun e w' => e = .returned (.tuple #[.int .i64 (i9 : Nat), .int .i64 25]) ∧ Below W.heap.size W w')) := fun W v hW hr => by have := lflows_ok _ v ns up both t W hW hr HG.out htu; rwa [flV_at he] at this
            clear he
            have hxl := HF.out.all both[i9] (List.getElem_mem hi9)
            obtain ⟨x9, hxe⟩ : ∃ x, both[i9] = x := ⟨_, rfl⟩
            have HXe := Lib.hid hxe
            rw [hxe] at hxl hle9
            clear hxe
            have HBi : Hid (∀ W, RdL W.heap.size W (.agg #[.slice q1 ns.length cap, .slice q up.length cap']) ns up → Calls Try.prog 28 #[.agg #[.slice q1 ns.length cap, .slice q up.length cap'], .int .i64 (x9 : Nat), .int .i64 (t : Nat)] W fun e w' => e = .returned (.bool false) ∧ Below W.heap.size W w') := fun W hW => by have := rbel_any _ ns up x9 t W hW (by omega) (by omega); rwa [hle9] at this
            clear hle9
            have hd0 : decide ((i9 : Int) < 0) = false := decide_eq_false (by omega)
            have hd1 : decide (both.length ≤ i9) = false := decide_eq_false (by omega)
            have hi9l : (i9 : Int) < (both.length : Int) := by omega
            obtain ⟨bb, ob, rfl, V7, V8⟩ := HK.out.2.at i9 hi9
            clear V7 V8
            go_wp2_with ((go_at_call 27; refine (HFl.out _ _ HK.out.1.rd HK.out.2).mono ?_; rintro e w' ⟨rfl, hbn⟩; clear hx0 hx1; have HK2 := Lib.hid (kl_next HK.out hbn); clear HK; have HK := HK2; clear HK2; have hx0 := HK.out.1.x0; have hx1 := HK.out.1.x1; clear hbn))
            clear hx0 hx1
            refine wp_region_held_drew (S := (fun W => Kl w (.slice q1 ns.length cap) (.slice q up.length cap') (.slice (some ⟨bb, ob, none⟩) both.length bc) ns up both W ∧ W.cell? ⟨w.heap.size, 0, none⟩ = some (.slice q1 ns.length cap) ∧ W.cell? ⟨w.heap.size, 1, none⟩ = some (.slice q up.length cap') ∧ W.cell? ⟨bb, ob + i9, none⟩ = some (.int .i64 (x9 : Int)) ∧ W.cell? ⟨bb, ob + i9, none⟩ = some (.int .i64 (x9 : Int)))) (by kernel_rfl) ?_ (fun hHeld => ?_)
            · exact kc5d HK.out hi9 hi9 HXe.out HXe.out
            refine wpAnyH_take (i := 0) (v := ?_) rfl (by kernel_rfl) (by kernel_rfl) (by kernel_rfl) (fun _ _ _ h => h) (Or.inl ⟨by rfl, ?_⟩) (by assumption) ?_
            rotate_left
            · ((intro w0 hSw); (try dsimp only at hSw); go_simp; (try with_reducible rfl))
            change wpAnyH _ _ _ _ _ _ _ (Act.put _ (some 169) _) _
            try simp only [Act.put, List.setIfInBounds_toArray, List.set_cons_zero, List.set_cons_succ]
            refine wpAnyH_take (i := 1) (v := ?_) rfl (by kernel_rfl) (by kernel_rfl) (by kernel_rfl) (fun _ _ _ h => h) (Or.inl ⟨by rfl, ?_⟩) (by assumption) ?_
            rotate_left
            · ((intro w0 hSw); (try dsimp only at hSw); go_simp; (try with_reducible rfl))
            change wpAnyH _ _ _ _ _ _ _ (Act.put _ (some 170) _) _
            try simp only [Act.put, List.setIfInBounds_toArray, List.set_cons_zero, List.set_cons_succ]
            refine wpAnyH_take (i := 2) (v := ?_) rfl (by kernel_rfl) (by kernel_rfl) (by kernel_rfl) (fun _ _ _ h => h) (Or.inl ⟨by rfl, ?_⟩) (by assumption) ?_
            rotate_left
            · ((intro w0 hSw); (try dsimp only at hSw); go_simp; (try with_reducible rfl))
            change wpAnyH _ _ _ _ _ _ _ (Act.put _ (some 171) _) _
            try simp only [Act.put, List.setIfInBounds_toArray, List.set_cons_zero, List.set_cons_succ]
            refine wpAnyH_take (i := 3) (v := ?_) rfl (by kernel_rfl) (by kernel_rfl) (by kernel_rfl) (fun _ _ _ h => h) (Or.inl ⟨by rfl, ?_⟩) (by assumption) ?_
            rotate_left
            · ((intro w0 hSw); (try dsimp only at hSw); go_simp; (try with_reducible rfl))
            change wpAnyH _ _ _ _ _ _ _ (Act.put _ (some 172) _) _
            try simp only [Act.put, List.setIfInBounds_toArray, List.set_cons_zero, List.set_cons_succ]
            refine wpAnyH_take (i := 4) (v := ?_) rfl (by kernel_rfl) (by kernel_rfl) (by kernel_rfl) (fun _ _ _ h => h) (Or.inl ⟨by rfl, ?_⟩) (by assumption) ?_
            rotate_left
            · ((intro w0 hSw); (try dsimp only at hSw); go_simp; (try with_reducible rfl))
            change wpAnyH _ _ _ _ _ _ _ (Act.put _ (some 173) _) _
            try simp only [Act.put, List.setIfInBounds_toArray, List.set_cons_zero, List.set_cons_succ]
            refine wpAnyH_ready (rs := [5]) (by kernel_rfl) (by simp) ?_
            refine AllReadyH.cons rfl (fun K hK => ?_) AllReadyH.nil
            go_simp
            go_at_call 28; (with_reducible refine (HBj.out _ (kl_rd (by assumption))).mono ?_); rintro e wn ⟨rfl, hbn⟩
            refine hK.out _ _ ?_ (fun hHeld2 => ?_)
            · exact kc5n (by assumption) hbn hi9 hi9 HXe.out HXe.out
            clear hK K hHeld
            have hHeld := hHeld2; clear hHeld2
            try change wpAnyH _ _ _ _ _ _ _ (Act.put _ (some 174) _) _
            try simp only [Act.put, List.setIfInBounds_toArray, List.set_cons_zero, List.set_cons_succ]
            refine wpAnyH_take (i := 6) (v := ?_) rfl (by kernel_rfl) (by kernel_rfl) (by kernel_rfl) (fun _ _ _ h => h) (Or.inl ⟨by rfl, ?_⟩) (by assumption) ?_
            rotate_left
            · ((intro w0 hSw); (try dsimp only at hSw); go_simp; (try with_reducible rfl))
            change wpAnyH _ _ _ _ _ _ _ (Act.put _ (some 175) _) _
            try simp only [Act.put, List.setIfInBounds_toArray, List.set_cons_zero, List.set_cons_succ]
            refine wpAnyH_take (i := 7) (v := ?_) rfl (by kernel_rfl) (by kernel_rfl) (by kernel_rfl) (fun _ _ _ h => h) (Or.inl ⟨by rfl, ?_⟩) (by assumption) ?_
            rotate_left
            · ((intro w0 hSw); (try dsimp only at hSw); go_simp; (try with_reducible rfl))
            change wpAnyH _ _ _ _ _ _ _ (Act.put _ (some 176) _) _
            try simp only [Act.put, List.setIfInBounds_toArray, List.set_cons_zero, List.set_cons_succ]
            refine wpAnyH_take (i := 8) (v := ?_) rfl (by kernel_rfl) (by kernel_rfl) (by kernel_rfl) (fun _ _ _ h => h) (Or.inl ⟨by rfl, ?_⟩) (by assumption) ?_
            rotate_left
            · ((intro w0 hSw); (try dsimp only at hSw); go_simp; (try with_reducible rfl))
            change wpAnyH _ _ _ _ _ _ _ (Act.put _ (some 177) _) _
            try simp only [Act.put, List.setIfInBounds_toArray, List.set_cons_zero, List.set_cons_succ]
            refine wpAnyH_take (i := 9) (v := ?_) rfl (by kernel_rfl) (by kernel_rfl) (by kernel_rfl) (fun _ _ _ h => h) (Or.inl ⟨by rfl, ?_⟩) (by assumption) ?_
            rotate_left
            · ((intro w0 hSw); (try dsimp only at hSw); go_simp; (try with_reducible rfl))
            change wpAnyH _ _ _ _ _ _ _ (Act.put _ (some 178) _) _
            try simp only [Act.put, List.setIfInBounds_toArray, List.set_cons_zero, List.set_cons_succ]
            refine wpAnyH_take (i := 10) (v := ?_) rfl (by kernel_rfl) (by kernel_rfl) (by kernel_rfl) (fun _ _ _ h => h) (Or.inl ⟨by rfl, ?_⟩) (by assumption) ?_
            rotate_left
            · ((intro w0 hSw); (try dsimp only at hSw); go_simp; (try with_reducible rfl))
            change wpAnyH _ _ _ _ _ _ _ (Act.put _ (some 179) _) _
            try simp only [Act.put, List.setIfInBounds_toArray, List.set_cons_zero, List.set_cons_succ]
            refine wpAnyH_take (i := 11) (v := ?_) rfl (by kernel_rfl) (by kernel_rfl) (by kernel_rfl) (fun _ _ _ h => h) (Or.inl ⟨by rfl, ?_⟩) (by assumption) ?_
            rotate_left
            · ((intro w0 hSw); (try dsimp only at hSw); go_simp; (try with_reducible rfl))
            change wpAnyH _ _ _ _ _ _ _ (Act.put _ (some 180) _) _
            try simp only [Act.put, List.setIfInBounds_toArray, List.set_cons_zero, List.set_cons_succ]
            refine wpAnyH_take (i := 12) (v := ?_) rfl (by kernel_rfl) (by kernel_rfl) (by kernel_rfl) (fun _ _ _ h => h) (Or.inl ⟨by rfl, ?_⟩) (by assumption) ?_
            rotate_left
            · ((intro w0 hSw); (try dsimp only at hSw); go_simp; (try with_reducible rfl))
            change wpAnyH _ _ _ _ _ _ _ (Act.put _ (some 181) _) _
            try simp only [Act.put, List.setIfInBounds_toArray, List.set_cons_zero, List.set_cons_succ]
            refine wpAnyH_take (i := 13) (v := ?_) rfl (by kernel_rfl) (by kernel_rfl) (by kernel_rfl) (fun _ _ _ h => h) (Or.inl ⟨by rfl, ?_⟩) (by assumption) ?_
            rotate_left
            · ((intro w0 hSw); (try dsimp only at hSw); go_simp; (try with_reducible rfl))
            change wpAnyH _ _ _ _ _ _ _ (Act.put _ (some 182) _) _
            try simp only [Act.put, List.setIfInBounds_toArray, List.set_cons_zero, List.set_cons_succ]
            refine wpAnyH_take (i := 14) (v := ?_) rfl (by kernel_rfl) (by kernel_rfl) (by kernel_rfl) (fun _ _ _ h => h) (Or.inl ⟨by rfl, ?_⟩) (by assumption) ?_
            rotate_left
            · ((intro w0 hSw); (try dsimp only at hSw); go_simp; (try with_reducible rfl))
            change wpAnyH _ _ _ _ _ _ _ (Act.put _ (some 183) _) _
            try simp only [Act.put, List.setIfInBounds_toArray, List.set_cons_zero, List.set_cons_succ]
            refine wpAnyH_take (i := 15) (v := ?_) rfl (by kernel_rfl) (by kernel_rfl) (by kernel_rfl) (fun _ _ _ h => h) (Or.inl ⟨by rfl, ?_⟩) (by assumption) ?_
            rotate_left
            · ((intro w0 hSw); (try dsimp only at hSw); go_simp; (try with_reducible rfl))
            change wpAnyH _ _ _ _ _ _ _ (Act.put _ (some 184) _) _
            try simp only [Act.put, List.setIfInBounds_toArray, List.set_cons_zero, List.set_cons_succ]
            refine wpAnyH_take (i := 16) (v := ?_) rfl (by kernel_rfl) (by kernel_rfl) (by kernel_rfl) (fun _ _ _ h => h) (Or.inl ⟨by rfl, ?_⟩) (by assumption) ?_
            rotate_left
            · ((intro w0 hSw); (try dsimp only at hSw); go_simp; (try with_reducible rfl))
            change wpAnyH _ _ _ _ _ _ _ (Act.put _ (some 185) _) _
            try simp only [Act.put, List.setIfInBounds_toArray, List.set_cons_zero, List.set_cons_succ]
            refine wpAnyH_take (i := 17) (v := ?_) rfl (by kernel_rfl) (by kernel_rfl) (by kernel_rfl) (fun _ _ _ h => h) (Or.inl ⟨by rfl, ?_⟩) (by assumption) ?_
            rotate_left
            · ((intro w0 hSw); (try dsimp only at hSw); go_simp; (try with_reducible rfl))
            change wpAnyH _ _ _ _ _ _ _ (Act.put _ (some 186) _) _
            try simp only [Act.put, List.setIfInBounds_toArray, List.set_cons_zero, List.set_cons_succ]
            refine wpAnyH_take (i := 18) (v := ?_) rfl (by kernel_rfl) (by kernel_rfl) (by kernel_rfl) (fun _ _ _ h => h) (Or.inl ⟨by rfl, ?_⟩) (by assumption) ?_
            rotate_left
            · ((intro w0 hSw); (try dsimp only at hSw); go_simp; (try with_reducible rfl))
            change wpAnyH _ _ _ _ _ _ _ (Act.put _ (some 187) _) _
            try simp only [Act.put, List.setIfInBounds_toArray, List.set_cons_zero, List.set_cons_succ]
            refine wpAnyH_take (i := 19) (v := ?_) rfl (by kernel_rfl) (by kernel_rfl) (by kernel_rfl) (fun _ _ _ h => h) (Or.inl ⟨by rfl, ?_⟩) (by assumption) ?_
            rotate_left
            · ((intro w0 hSw); (try dsimp only at hSw); go_simp; (try with_reducible rfl))
            change wpAnyH _ _ _ _ _ _ _ (Act.put _ (some 188) _) _
            try simp only [Act.put, List.setIfInBounds_toArray, List.set_cons_zero, List.set_cons_succ]
            refine wpAnyH_take (i := 20) (v := ?_) rfl (by kernel_rfl) (by kernel_rfl) (by kernel_rfl) (fun _ _ _ h => h) (Or.inl ⟨by rfl, ?_⟩) (by assumption) ?_
            rotate_left
            · ((intro w0 hSw); (try dsimp only at hSw); go_simp; (try with_reducible rfl))
            change wpAnyH _ _ _ _ _ _ _ (Act.put _ (some 189) _) _
            try simp only [Act.put, List.setIfInBounds_toArray, List.set_cons_zero, List.set_cons_succ]
            refine wpAnyH_take (i := 21) (v := ?_) rfl (by kernel_rfl) (by kernel_rfl) (by kernel_rfl) (fun _ _ _ h => h) (Or.inl ⟨by rfl, ?_⟩) (by assumption) ?_
            rotate_left
            · ((intro w0 hSw); (try dsimp only at hSw); go_simp; (try with_reducible rfl))
            change wpAnyH _ _ _ _ _ _ _ (Act.put _ (some 190) _) _
            try simp only [Act.put, List.setIfInBounds_toArray, List.set_cons_zero, List.set_cons_succ]
            refine wpAnyH_take (i := 22) (v := ?_) rfl (by kernel_rfl) (by kernel_rfl) (by kernel_rfl) (fun _ _ _ h => h) (Or.inl ⟨by rfl, ?_⟩) (by assumption) ?_
            rotate_left
            · ((intro w0 hSw); (try dsimp only at hSw); go_simp; (try with_reducible rfl))
            change wpAnyH _ _ _ _ _ _ _ (Act.put _ (some 191) _) _
            try simp only [Act.put, List.setIfInBounds_toArray, List.set_cons_zero, List.set_cons_succ]
            refine wpAnyH_take (i := 23) (v := ?_) rfl (by kernel_rfl) (by kernel_rfl) (by kernel_rfl) (fun _ _ _ h => h) (Or.inl ⟨by rfl, ?_⟩) (by assumption) ?_
            rotate_left
            · ((intro w0 hSw); (try dsimp only at hSw); go_simp; (try with_reducible rfl))
            change wpAnyH _ _ _ _ _ _ _ (Act.put _ (some 192) _) _
            try simp only [Act.put, List.setIfInBounds_toArray, List.set_cons_zero, List.set_cons_succ]
            refine wpAnyH_take (i := 24) (v := ?_) rfl (by kernel_rfl) (by kernel_rfl) (by kernel_rfl) (fun _ _ _ h => h) (Or.inl ⟨by rfl, ?_⟩) (by assumption) ?_
            rotate_left
            · ((intro w0 hSw); (try dsimp only at hSw); go_simp; (try with_reducible rfl))
            change wpAnyH _ _ _ _ _ _ _ (Act.put _ (some 193) _) _
            try simp only [Act.put, List.setIfInBounds_toArray, List.set_cons_zero, List.set_cons_succ]
            refine wpAnyH_take (i := 25) (v := ?_) rfl (by kernel_rfl) (by kernel_rfl) (by kernel_rfl) (fun _ _ _ h => h) (Or.inl ⟨by rfl, ?_⟩) (by assumption) ?_
            rotate_left
            · ((intro w0 hSw); (try dsimp only at hSw); go_simp; (try with_reducible rfl))
            change wpAnyH _ _ _ _ _ _ _ (Act.put _ (some 194) _) _
            try simp only [Act.put, List.setIfInBounds_toArray, List.set_cons_zero, List.set_cons_succ]
            refine wpAnyH_take (i := 26) (v := ?_) rfl (by kernel_rfl) (by kernel_rfl) (by kernel_rfl) (fun _ _ _ h => h) (Or.inl ⟨by rfl, ?_⟩) (by assumption) ?_
            rotate_left
            · ((intro w0 hSw); (try dsimp only at hSw); go_simp; (try with_reducible rfl))
            change wpAnyH _ _ _ _ _ _ _ (Act.put _ (some 195) _) _
            try simp only [Act.put, List.setIfInBounds_toArray, List.set_cons_zero, List.set_cons_succ]
            refine wpAnyH_take (i := 27) (v := ?_) rfl (by kernel_rfl) (by kernel_rfl) (by kernel_rfl) (fun _ _ _ h => h) (Or.inl ⟨by rfl, ?_⟩) (by assumption) ?_
            rotate_left
            · ((intro w0 hSw); (try dsimp only at hSw); go_simp; (try with_reducible rfl))
            change wpAnyH _ _ _ _ _ _ _ (Act.put _ (some 196) _) _
            try simp only [Act.put, List.setIfInBounds_toArray, List.set_cons_zero, List.set_cons_succ]
            refine wpAnyH_take (i := 28) (v := ?_) rfl (by kernel_rfl) (by kernel_rfl) (by kernel_rfl) (fun _ _ _ h => h) (Or.inl ⟨by rfl, ?_⟩) (by assumption) ?_
            rotate_left
            · ((intro w0 hSw); (try dsimp only at hSw); go_simp; (try with_reducible rfl))
            change wpAnyH _ _ _ _ _ _ _ (Act.put _ (some 197) _) _
            try simp only [Act.put, List.setIfInBounds_toArray, List.set_cons_zero, List.set_cons_succ]
            refine wpAnyH_take (i := 29) (v := ?_) rfl (by kernel_rfl) (by kernel_rfl) (by kernel_rfl) (fun _ _ _ h => h) (Or.inl ⟨by rfl, ?_⟩) (by assumption) ?_
            rotate_left
            · ((intro w0 hSw); (try dsimp only at hSw); go_simp; (try with_reducible rfl))
            change wpAnyH _ _ _ _ _ _ _ (Act.put _ (some 198) _) _
            try simp only [Act.put, List.setIfInBounds_toArray, List.set_cons_zero, List.set_cons_succ]
            refine wpAnyH_ready (rs := [30]) (by kernel_rfl) (by simp) ?_
            refine AllReadyH.cons rfl (fun K hK => ?_) AllReadyH.nil
            go_simp
            go_at_call 28; (with_reducible refine (HBi.out _ (kl_rd (by assumption))).mono ?_); rintro e wn ⟨rfl, hbn⟩
            refine hK.out _ _ ?_ (fun hHeld2 => ?_)
            · exact kc5n (by assumption) hbn hi9 hi9 HXe.out HXe.out
            clear hK K hHeld
            have hHeld := hHeld2; clear hHeld2
            try change wpAnyH _ _ _ _ _ _ _ (Act.put _ (some 199) _) _
            try simp only [Act.put, List.setIfInBounds_toArray, List.set_cons_zero, List.set_cons_succ]
            refine wpAnyH_take (i := 31) (v := ?_) rfl (by kernel_rfl) (by kernel_rfl) (by kernel_rfl) (fun _ _ _ h => h) (Or.inl ⟨by rfl, ?_⟩) (by assumption) ?_
            rotate_left
            · ((intro w0 hSw); (try dsimp only at hSw); go_simp; (try with_reducible rfl))
            change wpAnyH _ _ _ _ _ _ _ (Act.put _ (some 200) _) _
            try simp only [Act.put, List.setIfInBounds_toArray, List.set_cons_zero, List.set_cons_succ]
            refine wpAnyH_take (i := 32) (v := ?_) rfl (by kernel_rfl) (by kernel_rfl) (by kernel_rfl) (fun _ _ _ h => h) (Or.inl ⟨by rfl, ?_⟩) (by assumption) ?_
            rotate_left
            · ((intro w0 hSw); (try dsimp only at hSw); go_simp; (try with_reducible rfl))
            change wpAnyH _ _ _ _ _ _ _ (Act.put _ (some 201) _) _
            try simp only [Act.put, List.setIfInBounds_toArray, List.set_cons_zero, List.set_cons_succ]
            refine wpAnyH_take (i := 33) (v := ?_) rfl (by kernel_rfl) (by kernel_rfl) (by kernel_rfl) (fun _ _ _ h => h) (Or.inl ⟨by rfl, ?_⟩) (by assumption) ?_
            rotate_left
            · ((intro w0 hSw); (try dsimp only at hSw); go_simp; (try with_reducible rfl))
            change wpAnyH _ _ _ _ _ _ _ (Act.put _ (some 202) _) _
            try simp only [Act.put, List.setIfInBounds_toArray, List.set_cons_zero, List.set_cons_succ]
            refine wpAnyH_done (by kernel_rfl) ?_ _
            have HE := Lib.hid (by assumption : Kl _ _ _ _ _ _ _ _ ∧ _).1
            clear HK
            have HK := HE
            clear HE
            go_wp2_with fail
            go_loopg [25] both.length (fun g k W => ∃ m : Nat, m + g = both.length ∧ k = .int .i64 m ∧ Kl w (.slice q1 ns.length cap) (.slice q up.length cap') (.slice (some ⟨bb, ob, none⟩) both.length bc) ns up both W)
            case atStart => exact ⟨0, by omega, rfl, HK.out⟩
            case round =>
              clear HK
              obtain ⟨m, hmg, rfl, hkl⟩ := hrel
              have HK := Lib.hid hkl; clear hkl
              cases gk with
              | zero =>
                have hmz : ¬ ((m : Int) < (both.length : Int)) := by omega
                go_wp2_with fail
                go_roundg g7
                case measure => omega
                case rel => exact ⟨t + 1, by omega, by go_num, HK.out⟩
              | succ g8 =>
                have hmlt : (m : Int) < (both.length : Int) := by omega
                have hm' : m < both.length := by omega
                have hyl := HF.out.all both[m] (List.getElem_mem hm')
                by_cases hmi : m < i9
                · have HT := Lib.hid (hall m hmi hm')
                  have hmi2 : (m : Int) < (i9 : Int) := by omega
                  obtain ⟨y, hye⟩ : ∃ y, both[m] = y := ⟨_, rfl⟩
                  have HYe := Lib.hid hye
                  rw [hye] at hyl HT
                  clear hye
                  have HB1 : Hid (∀ W, RdL W.heap.size W (.agg #[.slice q1 ns.length cap, .slice q up.length cap']) ns up → Calls Try.prog 28 #[.agg #[.slice q1 ns.length cap, .slice q up.length cap'], .int .i64 (y : Nat), .int .i64 (t : Nat)] W fun e w' => e = .returned (.bool true) ∧ Below W.heap.size W w') := fun W hW => by have := rbel_any _ ns up y t W hW (by omega) (by omega); rwa [HT.out] at this
                  go_wp2_with fail
                  have hS := HK.out
                  clear HK
                  go_region_held3 (fun W => Kl w (.slice q1 ns.length cap) (.slice q up.length cap') (.slice (some ⟨bb, ob, none⟩) both.length bc) ns up both W ∧ W.cell? ⟨w.heap.size, 0, none⟩ = some (.slice q1 ns.length cap) ∧ W.cell? ⟨w.heap.size, 1, none⟩ = some (.slice q up.length cap') ∧ W.cell? ⟨bb, ob + m, none⟩ = some (.int .i64 (y : Int)) ∧ W.cell? ⟨bb, ob + m, none⟩ = some (.int .i64 (y : Int)))
                    ((first | exact kc5n (by assumption) hbn hm' hm' HYe.out HYe.out | exact kc5d hS hm' hm' HYe.out HYe.out))
                    ((go_at_call 28; refine (HB1.out _ (kl_rd (by assumption))).mono ?_; rintro e wn ⟨rfl, hbn⟩))
                  have HE := Lib.hid (by assumption : Kl _ _ _ _ _ _ _ _ ∧ _).1
                  go_wp2_with fail
                  go_roundg g8
                  case measure => omega
                  case rel => exact ⟨m + 1, by omega, by go_num, HE.out⟩
                · have hmi2 : ¬ ((m : Int) < (i9 : Int)) := by omega
                  obtain ⟨y, hye⟩ : ∃ y, both[m] = y := ⟨_, rfl⟩
                  have HYe := Lib.hid hye
                  rw [hye] at hyl
                  clear hye
                  cases ct : le up y t with
                  | true =>
                    have HB1 : Hid (∀ W, RdL W.heap.size W (.agg #[.slice q1 ns.length cap, .slice q up.length cap']) ns up → Calls Try.prog 28 #[.agg #[.slice q1 ns.length cap, .slice q up.length cap'], .int .i64 (y : Nat), .int .i64 (t : Nat)] W fun e w' => e = .returned (.bool true) ∧ Below W.heap.size W w') := fun W hW => by have := rbel_any _ ns up y t W hW (by omega) (by omega); rwa [ct] at this
                    clear ct
                    go_wp2_with fail
                    have hS := HK.out
                    clear HK
                    go_region_held3 (fun W => Kl w (.slice q1 ns.length cap) (.slice q up.length cap') (.slice (some ⟨bb, ob, none⟩) both.length bc) ns up both W ∧ W.cell? ⟨w.heap.size, 0, none⟩ = some (.slice q1 ns.length cap) ∧ W.cell? ⟨w.heap.size, 1, none⟩ = some (.slice q up.length cap') ∧ W.cell? ⟨bb, ob + m, none⟩ = some (.int .i64 (y : Int)) ∧ W.cell? ⟨bb, ob + m, none⟩ = some (.int .i64 (y : Int)))
                      ((first | exact kc5n (by assumption) hbn hm' hm' HYe.out HYe.out | exact kc5d hS hm' hm' HYe.out HYe.out))
                      ((go_at_call 28; refine (HB1.out _ (kl_rd (by assumption))).mono ?_; rintro e wn ⟨rfl, hbn⟩))
                    have HE := Lib.hid (by assumption : Kl _ _ _ _ _ _ _ _ ∧ _).1
                    go_wp2_with fail
                    go_roundg g8
                    case measure => omega
                    case rel => exact ⟨m + 1, by omega, by go_num, HE.out⟩
                  | false =>
                    have HB1 : Hid (∀ W, RdL W.heap.size W (.agg #[.slice q1 ns.length cap, .slice q up.length cap']) ns up → Calls Try.prog 28 #[.agg #[.slice q1 ns.length cap, .slice q up.length cap'], .int .i64 (y : Nat), .int .i64 (t : Nat)] W fun e w' => e = .returned (.bool false) ∧ Below W.heap.size W w') := fun W hW => by have := rbel_any _ ns up y t W hW (by omega) (by omega); rwa [ct] at this
                    clear ct
                    go_wp2_with fail
                    have hS := HK.out
                    clear HK
                    go_region_held3 (fun W => Kl w (.slice q1 ns.length cap) (.slice q up.length cap') (.slice (some ⟨bb, ob, none⟩) both.length bc) ns up both W ∧ W.cell? ⟨w.heap.size, 0, none⟩ = some (.slice q1 ns.length cap) ∧ W.cell? ⟨w.heap.size, 1, none⟩ = some (.slice q up.length cap') ∧ W.cell? ⟨bb, ob + m, none⟩ = some (.int .i64 (y : Int)) ∧ W.cell? ⟨bb, ob + m, none⟩ = some (.int .i64 (y : Int)))
                      ((first | exact kc5n (by assumption) hbn hm' hm' HYe.out HYe.out | exact kc5d hS hm' hm' HYe.out HYe.out))
                      ((go_at_call 28; refine (HB1.out _ (kl_rd (by assumption))).mono ?_; rintro e wn ⟨rfl, hbn⟩))
                    have HE := Lib.hid (by assumption : Kl _ _ _ _ _ _ _ _ ∧ _).1
                    go_wp2_with fail
                    go_roundg g8
                    case measure => omega
                    case rel => exact ⟨m + 1, by omega, by go_num, HE.out⟩
    | succ g =>
      have hklt : (k : Int) < (both.length : Int) := by omega
      have hk' : k < both.length := by omega
      obtain ⟨m, hme⟩ : ∃ m, both.length - 1 - k = m := ⟨_, rfl⟩
      have hm' : m < both.length := by omega
      have hmi : (both.length : Int) - 1 - (k : Int) = (m : Int) := by omega
      have hml : (m : Int) < (both.length : Int) := by omega
      have HR : Hid (both.reverse[k]'(by rw [List.length_reverse]; exact hk') = both[m]) := by
        unfold Hid
        rw [rev_get hk' (by omega)]
        simp only [hme]
      obtain ⟨bb, ob, rfl, V7, V8⟩ := HK.out.2.at k hk'
      clear V7 V8
      have HJa : Hid (jn (le up) up.length bo (both.reverse.take (k + 1)) = J (le up) up.length lo both[m]) := by
        unfold Hid; rw [jn_take (by rw [List.length_reverse]; exact hk'), hqa.out, HR.out]
      have HMa : Hid (jn (ge up) up.length tp (both.take (k + 1)) = J (ge up) up.length hi both[k]) := by
        unfold Hid; rw [jn_take hk', hqb.out]
      have hxl := HF.out.all both[m] (List.getElem_mem hm')
      have hyl := HF.out.all both[k] (List.getElem_mem hk')
      have hxc := rd_cell HK.out.2 m hm'
      obtain ⟨y, hye⟩ : ∃ y, both[k] = y := ⟨_, rfl⟩
      have HYe := Lib.hid hye
      rw [hye] at hyl HMa
      generalize both[m] = x at HJa hxl hxc HR
      clear hye hme HR
      have hj1 := HG.out.good.ords.1.J_lt hlo hxl
      have hj2 := HG.out.good.ords.2.J_lt hhi hyl
      have HRa : Hid (∀ W, RdL W.heap.size W (.agg #[.slice q1 ns.length cap, .slice q up.length cap']) ns up → Calls Try.prog 23 #[.agg #[.slice q1 ns.length cap, .slice q up.length cap'], .int .i64 (lo : Nat), .int .i64 (x : Nat)] W (fun e w' => e = .returned (.tuple #[.int .i64 (J (le up) up.length lo x : Nat), .int .i64 0]) ∧ Below W.heap.size W w')) := fun W hW => rjoin_ok _ ns up _ _ W hW HG.out.good hlo hxl
      have HRb : Hid (∀ W, RdL W.heap.size W (.agg #[.slice q1 ns.length cap, .slice q up.length cap']) ns up → Calls Try.prog 26 #[.agg #[.slice q1 ns.length cap, .slice q up.length cap'], .int .i64 (hi : Nat), .int .i64 (y : Nat)] W (fun e w' => e = .returned (.tuple #[.int .i64 (J (ge up) up.length hi y : Nat), .int .i64 0]) ∧ Below W.heap.size W w')) := fun W hW => rmeet_ok _ ns up _ _ W hW HG.out.good hhi hyl
      generalize J (le up) up.length lo x = l2 at HJa HRa hj1
      generalize J (ge up) up.length hi y = h2' at HMa HRb hj2
      have hx0 := HK.out.1.x0
      have hx1 := HK.out.1.x1
      go_wp2_with (go_at_call 23; refine (HRa.out _ HK.out.1.rd).mono ?_; rintro e w' ⟨rfl, hbn⟩; clear hx0 hx1; have HK2 := Lib.hid (kl_next HK.out hbn); clear HK; have HK := HK2; clear HK2; have hx0 := HK.out.1.x0; have hx1 := HK.out.1.x1; clear hbn hxc)
      have hS := HK.out
      clear HK hx0 hx1
      go_region_held3 (fun W => Kl w (.slice q1 ns.length cap) (.slice q up.length cap') (.slice (some ⟨bb, ob, none⟩) both.length bc) ns up both W ∧ W.cell? ⟨w.heap.size, 0, none⟩ = some (.slice q1 ns.length cap) ∧ W.cell? ⟨w.heap.size, 1, none⟩ = some (.slice q up.length cap') ∧ W.cell? ⟨bb, ob + k, none⟩ = some (.int .i64 (y : Int)) ∧ W.cell? ⟨bb, ob + k, none⟩ = some (.int .i64 (y : Int)))
        ((first | exact kc5n (by assumption) hbn hk' hk' HYe.out HYe.out | exact kc5d hS hk' hk' HYe.out HYe.out))
        ((go_at_call 26; refine (HRb.out _ (kl_rd (by assumption))).mono ?_; rintro e wn ⟨rfl, hbn⟩))
      have HE := Lib.hid (by assumption : Kl _ _ _ _ _ _ _ _ ∧ _).1
      go_wp2_with fail
      go_roundg g
      case measure => omega
      case rel => exact ⟨k + 1, l2, h2', by omega, by go_num, rfl, rfl, hj1, hj2, HE.out, HJa, HMa⟩

theorem lawFolds_any (v u x : Value) (ns : List ByteArray) (up : List UInt8) (la lb : List Int) (w : World) (hv : RdL w.heap.size w v ns up) (hza : RdI w.heap.size w u la) (hzb : RdI w.heap.size w x lb) (hNa : NilC u) (hNb : NilC x) :
    Calls Try.prog 5 #[v, u, x] w fun e w' => e = .returned (.bool true) ∧ Below w.heap.size w w' := by
  cases e0 : farB ns up
  · by_cases h1 : (32 : Int) < (la.length : Int)
    · exact lawFolds_la v u x ns up la lb w hv hza hzb e0 h1
    · by_cases h2 : (32 : Int) < (lb.length : Int)
      · exact lawFolds_lb v u x ns up la lb w hv hza hzb e0 h1 h2
      · cases k1 : ((lck ns up la).2 != 0)
        · cases k2 : ((lck ns up lb).2 != 0)
          · obtain ⟨a, rfl, hga⟩ := gl_of k1
            obtain ⟨b, rfl, hgb⟩ := gl_of k2
            rw [ints_len] at h1 h2
            exact lawFolds_ok v u x ns up a b w hv (rd_nat hza) (rd_nat hzb) e0 (by omega) (by omega) hga hgb hNa hNb
          · exact lawFolds_bb v u x ns up la lb w hv hza hzb e0 h1 h2 k1 k2
        · exact lawFolds_ba v u x ns up la lb w hv hza hzb e0 h1 h2 k1
  · exact lawFolds_far v u x ns up la lb w hv hza hzb e0
end Go.Proofs.Ytdkljpoecdinjaa
