/- row, Make of the reference. -/
import Derived.Test.YtfjnapmhnfjopaaLtDu
namespace Go.Proofs.Ytfjnapmhnfjopaa
open Go.RowKit

set_option maxRecDepth 100000 in
set_option maxHeartbeats 1000000 in
theorem rrow_any (s : ByteArray) (n : Nat) (w : World) (hn : n ≤ 8) (hs : s.size ≤ 9223372036854775807) :
    Calls Try.prog 51 #[.string s, .int .i64 n] w fun e w' => e = .returned (.tuple #[.int .u8 (rowV (byt s) n), .bool (rrB (byt s) n)]) ∧ w = w' := by
  by_cases hl : s.size = n
  · have q1 : ((s.size : Int) != (n : Int)) = false := by simp [hl]
    have HL := Lib.hid hl; clear hl
    go_enter Try.func51, Try.ntmps51
    go_wp2
    go_loopg [6, 7, 8] n (fun g x y i wr => ∃ k : Nat, k + g = n ∧ i = .int .i64 k ∧ x = .int .u8 (rrN (byt s) k) ∧ y = .int .u8 (2 ^ k % 256) ∧ w = wr ∧ Hid ((List.range k).any (rr1 (byt s)) = false))
    case atStart => exact ⟨0, by omega, rfl, rfl, rfl, rfl, rfl⟩
    case round =>
      obtain ⟨k, hkg, rfl, rfl, rfl, rfl, hq⟩ := hrel
      cases gk with
      | zero =>
        have hkz : ¬ ((k : Int) < (n : Int)) := by omega
        have HB : Hid (rrB (byt s) n = true) := by
          have := hq.out
          rw [show k = n by omega] at this
          unfold Hid rrB; rw [byt_len, decide_eq_true HL.out, this]; rfl
        have HK : Hid (k = n) := by unfold Hid; omega
        clear hq
        go_wp2
        go_ret2
        exact ⟨ret_two (by rw [rowV_yes HB.out, ← HK.out]; rfl) (by rw [HB.out]; rfl), rfl⟩
      | succ g =>
        have hlt : (k : Int) < (n : Int) := by omega
        have hks : k < s.size := by have := HL.out; omega
        have H48 := Lib.hid (is_byte hks 48)
        have H49 := Lib.hid (is_byte hks 49)
        have hrl := rrN_lt (byt s) k
        have hrl2 : 2 ^ k ≤ 2 ^ 8 := Nat.pow_le_pow_right (by decide) (by omega)
        have hrx : rrN (byt s) k < 256 := by omega
        have HOr := Lib.hid (or_u8 (rrN (byt s) k) k hrx (by omega))
        clear hrl hrl2
        cases c1 : ((s[k].toNat : Int) == 48) with
        | true =>
          have h49 : ((s[k].toNat : Int) == 49) = false := by
            have := eq_of_beq c1
            rw [this]; rfl
          have HR : Hid (rrN (byt s) (k + 1) = rrN (byt s) k) := rrN_0 (by rw [H49.out]; exact h49)
          have HQ : Hid ((List.range (k + 1)).any (rr1 (byt s)) = false) := any_succ hq.out (by unfold rr1; rw [H48.out]; rw [show ((s[k].toNat : Int) == ((48 : UInt8).toNat : Int)) = true from c1]; rfl)
          have n48 : ((s[k].toNat : Int) != 48) = false := by unfold bne; rw [c1]; rfl
          go_wp2
          go_roundg g
          case measure => omega
          case rel => exact ⟨k + 1, by omega, by go_num, by rw [HR.out], ret_u8 (shl1 k (by omega)), rfl, HQ.out⟩
        | false =>
          cases c2 : ((s[k].toNat : Int) == 49) with
          | true =>
            have HR : Hid (rrN (byt s) (k + 1) = rrN (byt s) k ||| 2 ^ k) := rrN_1 (by rw [H49.out]; exact c2)
            have HQ : Hid ((List.range (k + 1)).any (rr1 (byt s)) = false) := any_succ hq.out (by unfold rr1; rw [H49.out]; rw [show ((s[k].toNat : Int) == ((49 : UInt8).toNat : Int)) = true from c2]; simp)
            have n48 : ((s[k].toNat : Int) != 48) = true := by unfold bne; rw [c1]; rfl
            have n49 : ((s[k].toNat : Int) != 49) = false := by unfold bne; rw [c2]; rfl
            go_wp2
            go_roundg g
            case measure => omega
            case rel => exact ⟨k + 1, by omega, by go_num, by rw [HR.out, ← HOr.out], ret_u8 (shl1 k (by omega)), rfl, HQ.out⟩
          | false =>
            have HF : Hid (rrB (byt s) n = false) := by
              unfold Hid rrB
              rw [any_at (p := rr1 (byt s)) (k := k) (by unfold rr1; rw [H48.out, H49.out]; rw [show ((s[k].toNat : Int) == ((48 : UInt8).toNat : Int)) = false from c1, show ((s[k].toNat : Int) == ((49 : UInt8).toNat : Int)) = false from c2]; rfl) (by omega)]
              simp
            have n48 : ((s[k].toNat : Int) != 48) = true := by unfold bne; rw [c1]; rfl
            have n49 : ((s[k].toNat : Int) != 49) = true := by unfold bne; rw [c2]; rfl
            go_wp2
            go_ret2
            exact ⟨ret_two (by rw [rowV_no HF.out]; rfl) (by rw [HF.out]; rfl), rfl⟩
  · have q1 : ((s.size : Int) != (n : Int)) = true := by rw [bne_iff_ne]; omega
    have HF : Hid (rrB (byt s) n = false) := by unfold Hid rrB; rw [byt_len, decide_eq_false hl]; rfl
    go_enter Try.func51, Try.ntmps51
    go_wp2
    go_ret2
    exact ⟨ret_two (by rw [rowV_no HF.out]; rfl) (by rw [HF.out]; rfl), rfl⟩

theorem mkU_take {rows : List ByteArray} {n k : Nat} (hk : k < rows.length) : (mkU rows n).take (k + 1) = (mkU rows n).take k ++ [UInt8.ofNat (rrN (byt rows[k]) n)] := by
  rw [List.take_succ_eq_append_getElem (by rw [mkU_len]; exact hk)]
  unfold mkU
  simp [List.getD_eq_getElem?_getD, List.getElem?_eq_getElem hk]
/-- While the lattice is built: its box D holds the names nv and the row V of the numbers L so far. -/
structure Dm (w : World) (nv : Value) (D : Nat) (ns : List ByteArray) (L : List UInt8) (V : Value) (wr : World) : Prop where
  bel : Below w.heap.size w wr
  blk : wr.heap[D]? = some (.cells #[nv, V] 25 (0, 0))
  nm : wr.ownsRow (w.heap.size + 1) 9 1 nv ns.length (ns.map vs)
  row : wr.ownsRow (D + 1) 5 1 V L.length (L.map vb)
  hB : D + 1 ≤ wr.heap.size
  hD : w.heap.size + 1 ≤ D
  rb : wr.heap[w.heap.size]? = some (.cells #[Value.slice none 0 0, Value.slice none 0 0] 25 (0, 0))
theorem Dm.next {w : World} {nv V : Value} {D : Nat} {ns : List ByteArray} {L : List UInt8} {wr w' : World} (h : Dm w nv D ns L V wr) (hb : Below wr.heap.size wr w') : Dm w nv D ns L V w' where
  bel := h.bel.trans (hb.mono h.bel.size)
  blk := (hb.block _ (by have := h.hB; omega)).trans h.blk
  nm := own_below h.nm hb
  row := own_below h.row hb
  hB := Nat.le_trans h.hB hb.size
  hD := h.hD
  rb := (hb.block _ (by have := h.hB; have := h.hD; omega)).trans h.rb
theorem Dm.grow {w : World} {nv V V' : Value} {D g : Nat} {ns : List ByteArray} {L : List UInt8} {wr w' : World} {O : Obj} {x : UInt8} (h : Dm w nv D ns L V wr) (hn : nv.ownBlock = some g) (hgD : g < D)
    (hown : w'.ownsRow (D + 1) 5 1 V' (L.length + 1) (L.map vb ++ [vb x])) (hg : (wr.alloc O).grownBy w' V.ownBlock) : Dm w nv D ns (L ++ [x]) V' (w'.setCell ⟨D, 1, none⟩ V') := by
  have hB := h.hB
  have hD := h.hD
  have hb1 : Below (D + 1) wr w' := ((Below.refl _ wr).alloc hB O).grown hg (by simp; omega) (fun j e => (World.ownsRow.lt h.row j e).1)
  have hb : Below D wr (w'.setCell ⟨D, 1, none⟩ V') := (hb1.mono (B' := D) (Nat.le_succ _)).setCell (p := ⟨D, 1, none⟩) (Nat.le_refl _) _
  refine ⟨h.bel.trans (hb.mono (by omega)), ?_, own_set2 (World.ownsRow.kept (World.ownsRow.alloc h.nm O) hg (.inr ?_)) ?_ _, ?_, Nat.le_trans hB hb.size, hD, (hb.block _ (by omega)).trans h.rb⟩
  · have hk := (hb1.block D (by omega)).trans h.blk
    simp [World.setCell, Array.getElem?_modify, hk]
  · rw [hn]; exact fun e => own_ne h.row (Nat.lt_succ_of_lt hgD) e.symm
  · rw [hn]; intro e; injection e with e; exact absurd e (Nat.ne_of_lt hgD)
  · rw [List.length_append, List.map_append]
    exact own_set hown (a := ⟨D, 1, none⟩) (Nat.lt_succ_self D) _
theorem Dm.rd {w : World} {nv V : Value} {D : Nat} {ns : List ByteArray} {L : List UInt8} {wr : World} (h : Dm w nv D ns L V wr) (hs : ∀ s ∈ ns, s.size ≤ 9223372036854775807) : RdL wr.heap.size wr (.agg #[nv, V]) ns L :=
  ⟨⟨_, _, rfl, own_rd h.nm, own_rd h.row⟩, hs⟩

set_option maxRecDepth 100000 in
set_option maxHeartbeats 8000000 in
theorem rmake_any (v u : Value) (ns rows : List ByteArray) (w : World) (hv : RdS w.heap.size w v ns) (hu : RdS w.heap.size w u rows) (hs : ∀ s ∈ ns, s.size ≤ 281474976710656) (ht : ∀ s ∈ rows, s.size ≤ 9223372036854775807) :
    Calls Try.prog 17 #[v, u] w (MkP ns rows w) := by
  have HV := Lib.hid hv
  have HU := Lib.hid hu
  obtain ⟨p, cap, rfl, hc, hc2, h⟩ := hv
  obtain ⟨q, cap', rfl, hc', hc2', h'⟩ := hu
  clear h h'
  have HS := Lib.hid hs
  have HT := Lib.hid ht
  clear hs ht
  by_cases hA : ns.length < 1 ∨ 8 < ns.length ∨ rows.length ≠ ns.length
  · have HK : Hid (mkV ns rows = (-1, 3, [], [])) := mkV_A hA
    by_cases h1 : ns.length < 1
    · go_enter Try.func17, Try.ntmps17
      go_wp2
      exact bodyPost_ret (v := .tuple #[.agg #[.slice none 0 0, .slice none 0 0], .int .i64 (-1), .int .i64 3]) (by simp [results, Try.results17, go_sem]) rfl (mkP_zero HK.out (bel1 _ _))
    · by_cases h8 : 8 < ns.length
      · go_enter Try.func17, Try.ntmps17
        go_wp2
        exact bodyPost_ret (v := .tuple #[.agg #[.slice none 0 0, .slice none 0 0], .int .i64 (-1), .int .i64 3]) (by simp [results, Try.results17, go_sem]) rfl (mkP_zero HK.out (bel1 _ _))
      · have h3 : ((rows.length : Int) != (ns.length : Int)) = true := by rw [bne_iff_ne]; omega
        go_enter Try.func17, Try.ntmps17
        go_wp2
        exact bodyPost_ret (v := .tuple #[.agg #[.slice none 0 0, .slice none 0 0], .int .i64 (-1), .int .i64 3]) (by simp [results, Try.results17, go_sem]) rfl (mkP_zero HK.out (bel1 _ _))
  · have h1 : ¬ ns.length < 1 := by omega
    have h8 : ¬ 8 < ns.length := by omega
    have hrn : rows.length = ns.length := by omega
    have h3 : ((rows.length : Int) != (ns.length : Int)) = false := by rw [hrn]; simp
    have hr8 : rows.length ≤ 8 := by omega
    have HA := Lib.hid hA
    have HRN := Lib.hid hrn
    have hrn1 : rows.length ≤ ns.length := by omega
    clear hA hrn
    obtain ⟨i0, hi, hz0, hz1, hz2⟩ := info_parts info9
    obtain ⟨j0, ji, jz0, jz1, jz2⟩ := info_parts info5
    obtain ⟨b0, off, rfl, hb0, _⟩ := HV.out.at 0 (by omega)
    have e1 : (w.alloc (.cells #[Value.slice none 0 0, Value.slice none 0 0] 25)).heap.size = w.heap.size + 1 := by simp
    have hbw := (bel1 w (.cells #[Value.slice none 0 0, Value.slice none 0 0] 25)).alloc (by rw [e1]; exact Nat.le_succ _) (.cells #[] 9)
    have hnews : ∀ j u, (ns.map vs)[j]? = some u → ((w.alloc (.cells #[Value.slice none 0 0, Value.slice none 0 0] 25)).alloc (.cells #[] 9)).cell? ((⟨b0, off, none⟩ : Addr).add j) = some u := by
      intro j u hj
      rw [List.getElem?_map] at hj
      obtain ⟨x, hx, rfl⟩ := Option.map_eq_some_iff.1 hj
      obtain ⟨hjl, rfl⟩ := List.getElem?_eq_some_iff.1 hx
      obtain ⟨b', o', hbo, hb', hc'⟩ := HV.out.at j hjl
      injection hbo with hbo
      injection hbo with q1 q2
      subst q1 q2
      have e : (⟨b0, off, none⟩ : Addr).add j = ⟨b0, off + j, none⟩ := by simp [Addr.add]
      rw [e]
      exact (hbw.cell (p := ⟨b0, off + j, none⟩) hb0).trans hc'
    have HNews := Lib.hid hnews
    clear hnews
    have hown0 := World.ownsRow_lit (e := 9) (size := 1) (base := w.heap.size + 1) (w.alloc (.cells #[Value.slice none 0 0, Value.slice none 0 0] 25)) #[] 0 (by rw [e1]; exact Nat.le_refl _) (by decide) (by decide)
    have HOw := Lib.hid hown0
    clear hown0
    go_enter Try.func17, Try.ntmps17
    go_wp2_with (at_builtin; refine wpList_append_own _ rfl _ _ 22 rfl (w.heap.size + 1) 9 i0 (.string ByteArray.empty) 1 16 Try.underlying22 hi hz0 hz1 hz2 rfl (by decide) _ 0 [] (by rw [e1]; rfl) HOw.out ⟨b0, off, none⟩ ns.length _ (ns.map vs) rfl (by simp) HNews.out (by simp [vs, Value.oneCell']) (by unfold maxLen; omega) (by omega) (by simp) ?_; intro nv w4 hown4 hgrow4 _; obtain ⟨na, nn, nc, rfl⟩ := ownsRow_slice hown4)
    obtain ⟨gN, cN, curN, hnv, hgN, hhN, _⟩ : ∃ g cap cur, Value.slice na nn nc = .slice (some ⟨g, 0, none⟩) (0 + ns.length) cap ∧ w.heap.size + 1 ≤ g ∧ w4.heap[g]? = some cur ∧ True := by
      rcases hown4.2 with ⟨_, h0⟩ | ⟨g, cap, cur, hv, hg, hh, _⟩
      · omega
      · exact ⟨g, cap, _, hv, hg, hh, trivial⟩
    have hob : (Value.slice na nn nc).ownBlock = some gN := by rw [hnv]; rfl
    have hgD : gN < w4.heap.size := (Array.getElem?_eq_some_iff.1 hhN).1
    have hb4 : Below (w.heap.size + 1) (w.alloc (.cells #[Value.slice none 0 0, Value.slice none 0 0] 25)) w4 := ((Below.refl _ _).alloc (by rw [e1]; exact Nat.le_refl _) _).grown hgrow4 (by simp) (fun j e => Nat.le_of_eq (e1.symm.trans (Option.some.inj (show some (w.alloc (.cells #[Value.slice none 0 0, Value.slice none 0 0] 25)).heap.size = some j from e))))
    have hs4 := hb4.size
    rw [e1] at hs4
    have hb5 := bel1 w4 (.cells #[Value.slice na nn nc, Value.slice none 0 0] 25)
    have HD : Hid (Dm w (.slice na nn nc) w4.heap.size ns [] (.slice none 0 0) (w4.alloc (.cells #[Value.slice na nn nc, Value.slice none 0 0] 25))) :=
      ⟨((bel1 w _).trans (hb4.mono (Nat.le_succ _))).alloc (by omega) _, heap_new _ _, by have := own_below hown4 hb5; rw [Nat.zero_add] at this; simpa using this, World.ownsRow_nil _ _ _ _, by simp, by omega, (hb5.block _ (by omega)).trans ((hb4.block _ (Nat.lt_succ_self _)).trans (heap_new w _))⟩
    have HOb := Lib.hid hob
    have HgD := Lib.hid hgD
    clear hown4 hgrow4 hnv hhN hob hgD hb5 hb4 HNews hgN HOw hbw e1
    generalize hD0 : w4.heap.size = D at HD HgD hs4
    generalize hW0 : w4.alloc (.cells #[Value.slice na nn nc, Value.slice none 0 0] 25) = W0 at HD
    clear hW0 hD0
    go_loopg [8] rows.length (fun g i wr => ∃ (k : Nat) (V : Value), k + g = rows.length ∧ i = .int .i64 k ∧ Dm w (.slice na nn nc) D ns ((mkU rows ns.length).take k) V wr ∧ Hid ((List.range k).find? (mkBad rows ns.length) = none))
    case atStart => exact ⟨0, _, by omega, rfl, HD.out, rfl⟩
    case round =>
      clear HD
      obtain ⟨k, V, hkg, rfl, hdm, hq⟩ := hrel
      obtain ⟨va, vn', vc, rfl⟩ := ownsRow_slice hdm.row
      have HD := Lib.hid hdm
      have hdD := hdm.hD
      have hs0 : w.heap.size < wr.heap.size := by have := hdm.hB; omega
      have y0 : wr.cell? ⟨D, 0, none⟩ = some (.slice na nn nc) := (cell_of_block hdm.blk 0).trans rfl
      have y1 : wr.cell? ⟨D, 1, none⟩ = some (.slice va vn' vc) := (cell_of_block hdm.blk 1).trans rfl
      have x0 : wr.cell? ⟨w.heap.size, 0, none⟩ = some (.slice none 0 0) := (cell_of_block hdm.rb 0).trans rfl
      have x1 : wr.cell? ⟨w.heap.size, 1, none⟩ = some (.slice none 0 0) := (cell_of_block hdm.rb 1).trans rfl
      have f0 : wr.frozen? ⟨w.heap.size, 0, none⟩ = false := Lib.frozen_of_heap hdm.rb 0
      have f1 : wr.frozen? ⟨w.heap.size, 1, none⟩ = false := Lib.frozen_of_heap hdm.rb 1
      cases gk with
      | zero =>
        have hkz : ¬ ((k : Int) < (rows.length : Int)) := by omega
        have HKr : Hid (k = rows.length) := by unfold Hid; omega
        have HNo : Hid (mkF rows ns.length = none) := by unfold Hid mkF; rw [← HKr.out]; exact hq.out
        have HTk : Hid ((mkU rows ns.length).take k = mkU rows ns.length) := List.take_of_length_le (by rw [mkU_len]; omega)
        rw [HTk.out] at HD
        clear hq hdm
        have HZs : Hid (∀ s ∈ ns, s.size ≤ 9223372036854775807) := fun s hs => by have := HS.out s hs; omega
        cases c9 : ((ck ns (mkU rows ns.length)).2 != 0) with
        | true =>
          have HK := Lib.hid (mkV_C HA.out HNo.out c9)
          go_wp2_with (go_at_call 15; refine (rcheck_any _ ns (mkU rows ns.length) _ (HD.out.rd HZs.out)).mono ?_; rintro e w5 ⟨rfl, hb5⟩; have HD2 := Lib.hid (HD.out.next hb5); clear HD; have HD := HD2; clear HD2; clear hb5 x0 x1 f0 f1; have x0 : w5.cell? ⟨w.heap.size, 0, none⟩ = some (.slice none 0 0) := (cell_of_block HD.out.rb 0).trans rfl; have x1 : w5.cell? ⟨w.heap.size, 1, none⟩ = some (.slice none 0 0) := (cell_of_block HD.out.rb 1).trans rfl; have f0 : w5.frozen? ⟨w.heap.size, 0, none⟩ = false := Lib.frozen_of_heap HD.out.rb 0; have f1 : w5.frozen? ⟨w.heap.size, 1, none⟩ = false := Lib.frozen_of_heap HD.out.rb 1)
          exact bodyPost_ret (v := .tuple #[.agg #[.slice none 0 0, .slice none 0 0], .int .i64 _, .int .i64 _]) (by simp [results, Try.results17, go_sem, x0, x1]) rfl (mkP_zero HK.out ((HD.out.bel.setCell (p := ⟨w.heap.size, 0, none⟩) (Nat.le_refl _) _).setCell (p := ⟨w.heap.size, 1, none⟩) (Nat.le_refl _) _))
        | false =>
          have HK := Lib.hid (mkV_D HA.out HNo.out c9)
          go_wp2_with (go_at_call 15; refine (rcheck_any _ ns (mkU rows ns.length) _ (HD.out.rd HZs.out)).mono ?_; rintro e w5 ⟨rfl, hb5⟩; have HD2 := Lib.hid (HD.out.next hb5); clear HD; have HD := HD2; clear HD2; clear hb5 x0 x1 f0 f1 y0 y1; have x0 : w5.cell? ⟨w.heap.size, 0, none⟩ = some (.slice none 0 0) := (cell_of_block HD.out.rb 0).trans rfl; have x1 : w5.cell? ⟨w.heap.size, 1, none⟩ = some (.slice none 0 0) := (cell_of_block HD.out.rb 1).trans rfl; have f0 : w5.frozen? ⟨w.heap.size, 0, none⟩ = false := Lib.frozen_of_heap HD.out.rb 0; have f1 : w5.frozen? ⟨w.heap.size, 1, none⟩ = false := Lib.frozen_of_heap HD.out.rb 1; have y0 : w5.cell? ⟨D, 0, none⟩ = some (.slice na nn nc) := (cell_of_block HD.out.blk 0).trans rfl; have y1 : w5.cell? ⟨D, 1, none⟩ = some (.slice va vn' vc) := (cell_of_block HD.out.blk 1).trans rfl)
          have hb6 := ((HD.out.bel.setCell (p := ⟨w.heap.size, 0, none⟩) (Nat.le_refl _) (.slice na nn nc)).setCell (p := ⟨w.heap.size, 1, none⟩) (Nat.le_refl _) (.slice va vn' vc))
          have hn6 := own_set (own_set HD.out.nm (a := ⟨w.heap.size, 0, none⟩) (Nat.lt_succ_self _) (.slice na nn nc)) (a := ⟨w.heap.size, 1, none⟩) (Nat.lt_succ_self _) (.slice va vn' vc)
          have hr6 := own_set (own_set HD.out.row (a := ⟨w.heap.size, 0, none⟩) (by show w.heap.size < D + 1; omega) (.slice na nn nc)) (a := ⟨w.heap.size, 1, none⟩) (by show w.heap.size < D + 1; omega) (.slice va vn' vc)
          refine bodyPost_ret (v := .tuple #[.agg #[.slice na nn nc, .slice va vn' vc], .int .i64 0, .int .i64 0]) (by simp [results, Try.results17, go_sem, x0, x1]) rfl ?_
          unfold MkP
          rw [HK.out]
          exact ⟨_, rfl, ⟨⟨_, _, rfl, own_rd hn6, own_rd hr6⟩, HZs.out⟩, hb6⟩
      | succ g =>
        have hlt : (k : Int) < (rows.length : Int) := by omega
        have hk : k < rows.length := by omega
        obtain ⟨b1, off1, rfl, hlt0, hx⟩ := (HU.out.below hdm.bel).at k hk
        have hsk := HT.out rows[k] (List.getElem_mem hk)
        have HG : Hid (rows.getD k ByteArray.empty = rows[k]) := getD_get hk
        cases c0 : rrB (byt rows[k]) ns.length with
        | false =>
          have HK : Hid (mkV ns rows = ((k : Int), 6, [], [])) := mkV_B HA.out (find_at hq.out (by unfold mkBad; rw [HG.out, c0]; rfl) hk)
          clear hdm
          go_wp2_with (go_at_call 51; refine (rrow_any _ _ _ (by omega) hsk).mono ?_; rintro e w' ⟨rfl, rfl⟩)
          exact bodyPost_ret (v := .tuple #[.agg #[.slice none 0 0, .slice none 0 0], .int .i64 k, .int .i64 6]) (by simp [results, Try.results17, go_sem, x0, x1]) rfl (mkP_zero HK.out ((HD.out.bel.setCell (p := ⟨w.heap.size, 0, none⟩) (Nat.le_refl _) _).setCell (p := ⟨w.heap.size, 1, none⟩) (Nat.le_refl _) _))
        | true =>
          have HV2 : Hid (Value.int .u8 (rowV (byt rows[k]) ns.length) = vb (UInt8.ofNat (rrN (byt rows[k]) ns.length))) := by
            unfold Hid
            have h1 := rrN_lt (byt rows[k]) ns.length
            have h2 : 2 ^ ns.length ≤ 2 ^ 8 := Nat.pow_le_pow_right (by decide) (by omega)
            rw [rowV_yes c0]
            exact (vb_nat (by omega)).symm
          have HTk : Hid ((mkU rows ns.length).take (k + 1) = (mkU rows ns.length).take k ++ [UInt8.ofNat (rrN (byt rows[k]) ns.length)]) := mkU_take hk
          have hrow := hdm.row
          have hBw := hdm.hB
          have hlen : ((mkU rows ns.length).take k).length ≤ 8 := by rw [List.length_take, mkU_len]; omega
          generalize hL : (mkU rows ns.length).take k = L at hrow hlen HTk HD
          have HQ : Hid ((List.range (k + 1)).find? (mkBad rows ns.length) = none) := find_succ hq.out (by unfold mkBad; rw [HG.out, c0]; rfl)
          clear hL hdm
          go_wp2_with (first
            | (go_at_call 51; refine (rrow_any _ _ _ (by omega) hsk).mono ?_; rintro e w' ⟨rfl, rfl⟩)
            | (at_builtin; refine wpList_append_own _ rfl _ _ 23 rfl (D + 1) 5 j0 (.int .u8 0) 1 1 Try.underlying23 ji jz0 jz1 jz2 rfl (by decide) _ _ _ rfl (World.ownsRow.alloc hrow _) ⟨wr.heap.size, 0, none⟩ 1 1 [.int .u8 (rowV (byt rows[k]) ns.length)] rfl rfl (cells_new wr #[.int .u8 (rowV (byt rows[k]) ns.length)] _ _) (by simp [Value.oneCell']) (by unfold maxLen; omega) (by omega) (by simp; omega) ?_; intro v4 w5 hown5 hgrow5 _; have hb6 : Below (D + 1) wr w5 := ((Below.refl _ wr).alloc hBw _).grown hgrow5 (by simp; omega) (fun j e => (World.ownsRow.lt hrow j e).1); have hk6 := (hb6.block D (Nat.lt_succ_self D)).trans HD.out.blk; have y2 : w5.cell? ⟨D, 1, none⟩ = some (.slice va vn' vc) := (cell_of_block hk6 1).trans rfl; have k2 : w5.frozen? ⟨D, 1, none⟩ = false := Lib.frozen_of_heap hk6 1; clear hk6 hb6; obtain ⟨va4, vn4, vc4, rfl⟩ := ownsRow_slice hown5))
          rw [HV2.out] at hown5
          have HD2 := Lib.hid (Dm.grow HD.out HOb.out HgD.out hown5 hgrow5)
          go_roundg g
          case measure => omega
          case rel => exact ⟨k + 1, _, by omega, by go_num, by rw [HTk.out]; exact HD2.out, HQ⟩
end Go.Proofs.Ytfjnapmhnfjopaa
