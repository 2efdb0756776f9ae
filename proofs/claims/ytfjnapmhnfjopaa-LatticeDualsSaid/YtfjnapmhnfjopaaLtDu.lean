/- Dual of the reference. -/
import Derived.Test.YtfjnapmhnfjopaaLtCo
namespace Go.Proofs.Ytfjnapmhnfjopaa
open Go.RowKit

theorem dnU_get {up : List UInt8} {a : Nat} (ha : a < up.length) : (dnU up)[a]'(by rw [dnU_len]; exact ha) = UInt8.ofNat (dn1 up a up.length) := by
  unfold dnU; simp
theorem dnU_take {up : List UInt8} {a : Nat} (ha : a < up.length) : (dnU up).take (a + 1) = (dnU up).take a ++ [UInt8.ofNat (dn1 up a up.length)] := by
  rw [List.take_succ_eq_append_getElem (by rw [dnU_len]; exact ha), dnU_get ha]
theorem vb_nat {n : Nat} (h : n < 256) : vb (UInt8.ofNat n) = .int .u8 (n : Int) := by
  unfold vb; rw [UInt8.toNat_ofNat', Nat.mod_eq_of_lt h]
theorem ownsRow_slice {w : World} {base : Nat} {e : TypeId} {size : Nat} {v : Value} {n : Nat} {xs : List Value} (h : w.ownsRow base e size v n xs) : ∃ a n' c, v = .slice a n' c := by
  rcases h.2 with ⟨hv, _⟩ | ⟨g, cap, cur, hv, _⟩
  · exact ⟨_, _, _, hv⟩
  · exact ⟨_, _, _, hv⟩
theorem own_ne {w : World} {base b : Nat} {e : TypeId} {size : Nat} {v : Value} {n : Nat} {xs : List Value} (h : w.ownsRow base e size v n xs) (hb : b < base) : v.ownBlock ≠ some b := by
  intro e
  have := (World.ownsRow.lt h b e).1
  omega
theorem shl1 (b : Nat) (h : b < 8) : ((2 : Int) ^ b % 256) * 2 % 256 = 2 ^ (b + 1) % 256 := by
  have key : ∀ i : Fin 8, ((2 : Int) ^ i.val % 256) * 2 % 256 = 2 ^ (i.val + 1) % 256 := by decide +kernel
  exact key ⟨b, h⟩

/-- While the lattice the other way is built: its box D holds the new names nv and the row V of the numbers L so far. -/
structure Du (w : World) (vn vu nv : Value) (D : Nat) (ns : List ByteArray) (up L : List UInt8) (V : Value) (wr : World) : Prop where
  bx : Bx w vn vu ns up wr
  blk : wr.heap[D]? = some (.cells #[nv, V] 25 (0, 0))
  nm : wr.ownsRow (w.heap.size + 2) 9 1 nv ns.length (ns.map vs)
  row : wr.ownsRow (D + 1) 5 1 V L.length (L.map vb)
  hB : D + 1 ≤ wr.heap.size
  hD : w.heap.size + 2 ≤ D
  rb : wr.heap[w.heap.size + 1]? = some (.cells #[Value.slice none 0 0, Value.slice none 0 0] 25 (0, 0))
theorem own_set2 {w : World} {base : Nat} {e : TypeId} {size : Nat} {v : Value} {n : Nat} {xs : List Value} (h : w.ownsRow base e size v n xs) {a : Addr} (ha : v.ownBlock ≠ some a.block) (x : Value) : (w.setCell a x).ownsRow base e size v n xs := by
  obtain ⟨h1, h2⟩ := h
  refine ⟨h1, ?_⟩
  rcases h2 with h2 | ⟨g, cap, cur, rfl, hg, hh, r⟩
  · exact .inl h2
  · refine .inr ⟨g, cap, cur, rfl, hg, ?_, r⟩
    have : a.block ≠ g := fun e => ha (by rw [e]; rfl)
    simp [World.setCell, Array.getElem?_modify, this, hh]
theorem Du.next {w : World} {vn vu nv V : Value} {D : Nat} {ns : List ByteArray} {up L : List UInt8} {wr w' : World} (h : Du w vn vu nv D ns up L V wr) (hb : Below wr.heap.size wr w') : Du w vn vu nv D ns up L V w' where
  bx := h.bx.next hb
  blk := (hb.block _ (by have := h.hB; omega)).trans h.blk
  nm := own_below h.nm hb
  row := own_below h.row hb
  hB := Nat.le_trans h.hB hb.size
  hD := h.hD
  rb := (hb.block _ (by have := h.hB; have := h.hD; omega)).trans h.rb
theorem Du.grow {w : World} {vn vu nv V V' : Value} {D g : Nat} {ns : List ByteArray} {up L : List UInt8} {wr w' : World} {O : Obj} {x : UInt8} (h : Du w vn vu nv D ns up L V wr) (hl : RdL w.heap.size w (.agg #[vn, vu]) ns up) (hn : nv.ownBlock = some g) (hgD : g < D)
    (hown : w'.ownsRow (D + 1) 5 1 V' (L.length + 1) (L.map vb ++ [vb x])) (hg : (wr.alloc O).grownBy w' V.ownBlock) : Du w vn vu nv D ns up (L ++ [x]) V' (w'.setCell ⟨D, 1, none⟩ V') := by
  have hB := h.hB
  have hD := h.hD
  have hb1 : Below (D + 1) wr w' := ((Below.refl _ wr).alloc hB O).grown hg (by simp; omega) (fun j e => (World.ownsRow.lt h.row j e).1)
  have hb : Below D wr (w'.setCell ⟨D, 1, none⟩ V') := (hb1.mono (B' := D) (Nat.le_succ _)).setCell (p := ⟨D, 1, none⟩) (Nat.le_refl _) _
  refine ⟨bx_up h.bx (hb.mono (by omega)) hl, ?_, own_set2 (World.ownsRow.kept (World.ownsRow.alloc h.nm O) hg (.inr ?_)) ?_ _, ?_, Nat.le_trans hB hb.size, hD, (hb.block _ (by omega)).trans h.rb⟩
  · have hk := (hb1.block D (by omega)).trans h.blk
    simp [World.setCell, Array.getElem?_modify, hk]
  · rw [hn]; exact fun e => own_ne h.row (Nat.lt_succ_of_lt hgD) e.symm
  · rw [hn]; intro e; injection e with e; exact absurd e (Nat.ne_of_lt hgD)
  · rw [List.length_append, List.map_append]
    exact own_set hown (a := ⟨D, 1, none⟩) (Nat.lt_succ_self D) _

theorem ret_u8 {x y : Int} (h : x = y) : Value.int .u8 x = .int .u8 y := by rw [h]

set_option maxRecDepth 100000 in
set_option maxHeartbeats 8000000 in
theorem rdual_ok (v : Value) (ns : List ByteArray) (up : List UInt8) (w : World) (hv : RdL w.heap.size w v ns up) (hg : Good ns up) :
    Calls Try.prog 35 #[v] w fun e w' => ∃ x, e = .returned (.tuple #[x, .int .i64 0]) ∧ RdL w'.heap.size w' x ns (dnU up) ∧ Below w.heap.size w w' := by
  have HL := Lib.hid hv
  obtain ⟨⟨vn, vu, rfl, hS, hB⟩, hsz⟩ := hv
  have HZ := Lib.hid hsz
  obtain ⟨p, cap, rfl, hc, hc2, h⟩ := hS
  obtain ⟨q, cap', rfl, hc', hc2', h'⟩ := hB
  clear h h' hsz
  have hu8 : up.length ≤ 8 := hg.n8
  have hn8 : ns.length ≤ 8 := hg.most
  have hn1 : 1 ≤ ns.length := hg.pos
  have hle1 : ns.length ≤ up.length := by have := hg.len; omega
  have hle2 : up.length ≤ ns.length := by have := hg.len; omega
  have H0 := Lib.hid hg.ck
  clear hg
  obtain ⟨i0, hi, hz0, hz1, hz2⟩ := info_parts info9
  obtain ⟨j0, ji, jz0, jz1, jz2⟩ := info_parts info5
  have HI := Lib.hid ((Bx.new HL.out).next (bel1 _ (.cells #[Value.slice none 0 0, Value.slice none 0 0] 25)))
  have e1 : (w.alloc (.cells #[.slice p ns.length cap, .slice q up.length cap'] 25)).heap.size = w.heap.size + 1 := by simp
  have HC0 : Hid (((w.alloc (.cells #[.slice p ns.length cap, .slice q up.length cap'] 25)).alloc (.cells #[Value.slice none 0 0, Value.slice none 0 0] 25)).heap[w.heap.size + 1]? = some (.cells #[Value.slice none 0 0, Value.slice none 0 0] 25 (0, 0))) := by
    unfold Hid; rw [← e1]; exact heap_new _ _
  have HS0 : Hid (((w.alloc (.cells #[.slice p ns.length cap, .slice q up.length cap'] 25)).alloc (.cells #[Value.slice none 0 0, Value.slice none 0 0] 25)).heap.size = w.heap.size + 2) := by unfold Hid; simp
  clear e1
  go_enter Try.func35, Try.ntmps35
  go_wp2_with fail
  refine (rcheck_any _ ns up _ HI.out.rd).mono ?_
  rw [H0.out]
  rintro e w1 ⟨rfl, hb1⟩
  have HI1 := Lib.hid (HI.out.next hb1)
  have hs1 : w.heap.size + 2 ≤ w1.heap.size := by have := hb1.size; rw [HS0.out] at this; exact this
  have HC1 : Hid (w1.heap[w.heap.size + 1]? = some (.cells #[Value.slice none 0 0, Value.slice none 0 0] 25 (0, 0))) := (hb1.block _ (by rw [HS0.out]; omega)).trans HC0.out
  clear HI hb1 HC0 HS0
  have hx0 := HI1.out.x0
  have hx1 := HI1.out.x1
  have HNm := Lib.hid HI1.out.nm
  obtain ⟨b0, off, rfl, hb0, _⟩ := HNm.out.at 0 (by omega)
  have hnews : ∀ j u, (ns.map vs)[j]? = some u → (w1.alloc (.cells #[] 9)).cell? ((⟨b0, off, none⟩ : Addr).add j) = some u := by
    intro j u hj
    rw [List.getElem?_map] at hj
    obtain ⟨x, hx, rfl⟩ := Option.map_eq_some_iff.1 hj
    obtain ⟨hjl, rfl⟩ := List.getElem?_eq_some_iff.1 hx
    obtain ⟨b', o', hbo, hb', hc'⟩ := HNm.out.at j hjl
    injection hbo with hbo
    injection hbo with q1 q2
    subst q1 q2
    have e : (⟨b0, off, none⟩ : Addr).add j = ⟨b0, off + j, none⟩ := by simp [Addr.add]
    rw [e]
    exact ((bel1 w1 _).cell (p := ⟨b0, off + j, none⟩) hb0).trans hc'
  have HNews := Lib.hid hnews
  clear hnews
  have hown0 := World.ownsRow_lit (e := 9) (size := 1) (base := w.heap.size + 2) w1 #[] 0 (by omega) (by decide) (by decide)
  have HOw := Lib.hid hown0
  clear hown0
  have HX0 : Hid ((w1.alloc (.cells #[] 9)).cell? ⟨w.heap.size, 0, none⟩ = some (.slice (some ⟨b0, off, none⟩) ns.length cap)) := ((bel1 w1 _).cell (p := ⟨w.heap.size, 0, none⟩) (by show w.heap.size < w1.heap.size; omega)).trans hx0
  have hxx := HX0.out
  clear hx0 hx1
  go_wp2_with (at_builtin; refine wpList_append_own _ rfl _ _ 22 rfl (w.heap.size + 2) 9 i0 (.string ByteArray.empty) 1 16 Try.underlying22 hi hz0 hz1 hz2 rfl (by decide) _ 0 [] rfl HOw.out ⟨b0, off, none⟩ ns.length _ (ns.map vs) rfl (by simp) HNews.out (by simp [vs, Value.oneCell']) (by unfold maxLen; omega) (by omega) (by simp; omega) ?_; intro nv w4 hown4 hgrow4 _; obtain ⟨na, nn, nc, rfl⟩ := ownsRow_slice hown4)
  clear hxx HX0 HOw
  obtain ⟨gN, cN, curN, hnv, hgN, hhN, _⟩ : ∃ g cap cur, Value.slice na nn nc = .slice (some ⟨g, 0, none⟩) (0 + ns.length) cap ∧ w.heap.size + 2 ≤ g ∧ w4.heap[g]? = some cur ∧ True := by
    rcases hown4.2 with ⟨_, h0⟩ | ⟨g, cap, cur, hv, hg, hh, _⟩
    · omega
    · exact ⟨g, cap, _, hv, hg, hh, trivial⟩
  have hob : (Value.slice na nn nc).ownBlock = some gN := by rw [hnv]; rfl
  have hgD : gN < w4.heap.size := (Array.getElem?_eq_some_iff.1 hhN).1
  have hb4 : Below w1.heap.size w1 w4 := ((Below.refl w1.heap.size w1).alloc (Nat.le_refl _) _).grown hgrow4 (by simp) (fun j e => Nat.le_of_eq (Option.some.inj (show some w1.heap.size = some j from e)))
  have hs4 := hb4.size
  have hb5 := bel1 w4 (.cells #[Value.slice na nn nc, Value.slice none 0 0] 25)
  have HD : Hid (Du w (.slice (some ⟨b0, off, none⟩) ns.length cap) (.slice q up.length cap') (.slice na nn nc) w4.heap.size ns up [] (.slice none 0 0) (w4.alloc (.cells #[Value.slice na nn nc, Value.slice none 0 0] 25))) :=
    ⟨(HI1.out.next hb4).next hb5, heap_new _ _, by have := own_below hown4 hb5; rw [Nat.zero_add] at this; simpa using this, World.ownsRow_nil _ _ _ _, by simp, by omega, (hb5.block _ (by omega)).trans ((hb4.block _ (by omega)).trans HC1.out)⟩
  have HOb := Lib.hid hob
  have HgD := Lib.hid hgD
  clear hown4 hgrow4 hnv hhN hob hgD hb5 hb4 HNews HNm HC1 HI1 hgN
  generalize hD0 : w4.heap.size = D at HD HgD hs4
  generalize hW0 : w4.alloc (.cells #[Value.slice na nn nc, Value.slice none 0 0] 25) = W0 at HD
  clear hW0 hD0
  go_loopg [7] ns.length (fun g i wr => ∃ (a : Nat) (V : Value), a + g = ns.length ∧ i = .int .i64 a ∧ Du w (.slice (some ⟨b0, off, none⟩) ns.length cap) (.slice q up.length cap') (.slice na nn nc) D ns up ((dnU up).take a) V wr)
  case atStart => exact ⟨0, _, by omega, rfl, HD.out⟩
  case round =>
    clear HD
    obtain ⟨a, V, hag, rfl, hdu⟩ := hrel
    have HD := Lib.hid hdu
    have hx0 := hdu.bx.x0
    have hx1 := hdu.bx.x1
    have hdD := hdu.hD
    cases gk with
    | zero =>
      have haz : ¬ ((a : Int) < (ns.length : Int)) := by omega
      have HA : Hid ((dnU up).take a = dnU up) := List.take_of_length_le (by rw [dnU_len]; omega)
      obtain ⟨va, vn', vc, rfl⟩ := ownsRow_slice hdu.row
      have y0 : wr.cell? ⟨D, 0, none⟩ = some (.slice na nn nc) := (cell_of_block hdu.blk 0).trans rfl
      have y1 : wr.cell? ⟨D, 1, none⟩ = some (.slice va vn' vc) := (cell_of_block hdu.blk 1).trans rfl
      have z0 : wr.cell? ⟨w.heap.size + 1, 0, none⟩ = some (.slice none 0 0) := (cell_of_block hdu.rb 0).trans rfl
      have z1 : wr.cell? ⟨w.heap.size + 1, 1, none⟩ = some (.slice none 0 0) := (cell_of_block hdu.rb 1).trans rfl
      have k0 : wr.frozen? ⟨w.heap.size + 1, 0, none⟩ = false := Lib.frozen_of_heap hdu.rb 0
      have k1 : wr.frozen? ⟨w.heap.size + 1, 1, none⟩ = false := Lib.frozen_of_heap hdu.rb 1
      have hs0 : w.heap.size + 1 < wr.heap.size := by have := hdu.hB; omega
      have hb5 := ((hdu.bx.bel.setCell (p := ⟨w.heap.size + 1, 0, none⟩) (Nat.le_succ _) (.slice na nn nc)).setCell (p := ⟨w.heap.size + 1, 1, none⟩) (Nat.le_succ _) (.slice va vn' vc))
      have hn5 := own_set (own_set hdu.nm (a := ⟨w.heap.size + 1, 0, none⟩) (Nat.lt_succ_self _) (.slice na nn nc)) (a := ⟨w.heap.size + 1, 1, none⟩) (Nat.lt_succ_self _) (.slice va vn' vc)
      have hr5 := own_set (own_set hdu.row (a := ⟨w.heap.size + 1, 0, none⟩) (by show w.heap.size + 1 < D + 1; omega) (.slice na nn nc)) (a := ⟨w.heap.size + 1, 1, none⟩) (by show w.heap.size + 1 < D + 1; omega) (.slice va vn' vc)
      rw [HA.out] at hr5
      have H5 := Lib.hid (And.intro hb5 (And.intro (own_rd hn5) (own_rd hr5)))
      clear hdu hb5 hn5 hr5
      go_wp2_with fail
      refine bodyPost_ret (v := .tuple #[.agg #[.slice na nn nc, .slice va vn' vc], .int .i64 0]) (by simp [results, Try.results35, go_sem, z0, z1]) rfl ?_
      exact ⟨_, rfl, ⟨⟨_, _, rfl, H5.out.2.1, H5.out.2.2⟩, HZ.out⟩, H5.out.1⟩
    | succ g =>
      have halt : (a : Int) < (ns.length : Int) := by omega
      clear hdu
      go_wp2_with fail
      clear hx0 hx1
      go_loopg [8, 9, 10] ns.length (fun g s8 s9 i wr => ∃ b : Nat, b + g = ns.length ∧ i = .int .i64 b ∧ s8 = .int .u8 (dn1 up a b : Nat) ∧ s9 = .int .u8 (2 ^ b % 256) ∧ Du w (.slice (some ⟨b0, off, none⟩) ns.length cap) (.slice q up.length cap') (.slice na nn nc) D ns up ((dnU up).take a) V wr)
      case atStart => exact ⟨0, by omega, rfl, rfl, rfl, HD.out⟩
      case round =>
        clear HD
        obtain ⟨b, hbg, rfl, rfl, rfl, hdu⟩ := hrel
        have HD := Lib.hid hdu
        have hx0 := hdu.bx.x0
        have hx1 := hdu.bx.x1
        cases gk with
        | zero =>
          have hbz : ¬ ((b : Int) < (ns.length : Int)) := by omega
          have hau : a < up.length := by omega
          have HV : Hid (Value.int .u8 ((dn1 up a b : Nat) : Int) = vb (UInt8.ofNat (dn1 up a up.length))) := by
            unfold Hid
            have hbe : b = up.length := by omega
            subst hbe
            have h1 := dn1_lt up a up.length
            have h2 : 2 ^ up.length ≤ 2 ^ 8 := Nat.pow_le_pow_right (by decide) hu8
            exact (vb_nat (by omega)).symm
          have HTk : Hid ((dnU up).take (a + 1) = (dnU up).take a ++ [UInt8.ofNat (dn1 up a up.length)]) := dnU_take hau
          have hrow := hdu.row
          have hBw := hdu.hB
          have hlen : ((dnU up).take a).length ≤ 8 := by rw [List.length_take]; omega
          obtain ⟨va, vn', vc, rfl⟩ := ownsRow_slice hrow
          have y0 : wr.cell? ⟨D, 0, none⟩ = some (.slice na nn nc) := (cell_of_block hdu.blk 0).trans rfl
          have y1 : wr.cell? ⟨D, 1, none⟩ = some (.slice va vn' vc) := (cell_of_block hdu.blk 1).trans rfl
          generalize hL : (dnU up).take a = L at hrow hlen HTk HD
          clear hL hdu
          go_wp2_with (at_builtin; refine wpList_append_own _ rfl _ _ 23 rfl (D + 1) 5 j0 (.int .u8 0) 1 1 Try.underlying23 ji jz0 jz1 jz2 rfl (by decide) _ _ _ rfl (World.ownsRow.alloc hrow _) ⟨wr.heap.size, 0, none⟩ 1 1 [.int .u8 ((dn1 up a b : Nat) : Int)] rfl rfl (cells_new wr #[.int .u8 ((dn1 up a b : Nat) : Int)] _ _) (by simp [Value.oneCell']) (by unfold maxLen; omega) (by omega) (by simp; omega) ?_; intro v4 w5 hown5 hgrow5 _; have hb6 : Below (D + 1) wr w5 := ((Below.refl _ wr).alloc hBw _).grown hgrow5 (by simp; omega) (fun j e => (World.ownsRow.lt hrow j e).1); have hk6 := (hb6.block D (Nat.lt_succ_self D)).trans HD.out.blk; have y2 : w5.cell? ⟨D, 1, none⟩ = some (.slice va vn' vc) := (cell_of_block hk6 1).trans rfl; have k2 : w5.frozen? ⟨D, 1, none⟩ = false := Lib.frozen_of_heap hk6 1; clear hk6 hb6; obtain ⟨va4, vn4, vc4, rfl⟩ := ownsRow_slice hown5)
          rw [HV.out] at hown5
          have HD2 := Lib.hid (Du.grow HD.out HL.out HOb.out HgD.out hown5 hgrow5)
          go_roundg g
          case measure => omega
          case rel => exact ⟨a + 1, _, by omega, by go_num, by rw [HTk.out]; exact HD2.out⟩
        | succ g3 =>
          have hblt : (b : Int) < (ns.length : Int) := by omega
          clear hdu
          cases c0 : le up b a with
          | false =>
            have HT : Hid (dn1 up a (b + 1) = dn1 up a b) := dn1_f c0
            go_wp2_with (go_at_call 55; refine (rbel_any _ ns up _ _ _ HD.out.bx.rd (by omega) (by omega)).mono ?_; rintro e w' ⟨rfl, hbn⟩; clear hx0 hx1; have HD2 := Lib.hid (HD.out.next hbn); clear HD hbn; have HD := HD2; clear HD2)
            go_roundg g3
            case measure => omega
            case rel => exact ⟨b + 1, by omega, by go_num, by rw [HT.out], ret_u8 (shl1 b (by omega)), HD.out⟩
          | true =>
            have HT : Hid (dn1 up a (b + 1) = dn1 up a b ||| 2 ^ b) := dn1_t c0
            have h1 := dn1_lt up a b
            have h2 : 2 ^ b ≤ 2 ^ 8 := Nat.pow_le_pow_right (by decide) (by omega)
            have hrx : dn1 up a b < 256 := by omega
            have HOr := Lib.hid (or_u8 (dn1 up a b) b hrx (by omega))
            clear h1 h2
            go_wp2_with (go_at_call 55; refine (rbel_any _ ns up _ _ _ HD.out.bx.rd (by omega) (by omega)).mono ?_; rintro e w' ⟨rfl, hbn⟩; clear hx0 hx1; have HD2 := Lib.hid (HD.out.next hbn); clear HD hbn; have HD := HD2; clear HD2)
            go_roundg g3
            case measure => omega
            case rel => exact ⟨b + 1, by omega, by go_num, by rw [HT.out, ← HOr.out], ret_u8 (shl1 b (by omega)), HD.out⟩
end Go.Proofs.Ytfjnapmhnfjopaa
