/- The reference: Least. -/
import Derived.Test.YtdkljpoecdinjaaLbP
namespace Go.Proofs.Ytdkljpoecdinjaa
open Go.RowKit

/-- Whether the k-th one is not below the i-th one, or is it. -/
def lsI (up : List UInt8) (ls : List Nat) (i k : Nat) : Bool := decide (ls.getD k 0 = ls.getD i 0) || !le up (ls.getD k 0) (ls.getD i 0)
theorem lsI_get {up : List UInt8} {ls : List Nat} {i k : Nat} (hi : i < ls.length) (hk : k < ls.length) : lsI up ls i k = (decide (ls[k] = ls[i]) || !le up ls[k] ls[i]) := by
  unfold lsI; rw [List.getD_eq_getElem?_getD, List.getD_eq_getElem?_getD, List.getElem?_eq_getElem hi, List.getElem?_eq_getElem hk]; rfl
theorem ls_leB {up : List UInt8} {ls : List Nat} {i : Nat} (hi : i < ls.length) : leB up ls ls[i] = (List.range ls.length).all (lsI up ls i) := by
  rw [Bool.eq_iff_iff, leB_iff, List.all_eq_true]
  constructor
  · rintro ⟨_, h⟩ k hk
    rw [List.mem_range] at hk
    rw [lsI_get hi hk]
    rcases h ls[k] (List.getElem_mem hk) with e | e
    · rw [decide_eq_true e]; rfl
    · rw [e]; simp
  · intro h
    refine ⟨List.getElem_mem hi, fun b hb => ?_⟩
    obtain ⟨k, hk, rfl⟩ := List.getElem_of_mem hb
    have := h k (List.mem_range.2 hk)
    rw [lsI_get hi hk, Bool.or_eq_true, decide_eq_true_iff] at this
    rcases this with e | e
    · exact .inl e
    · exact .inr (by simpa using e)
/-- The least ones among the first k, in the order of the list. -/
def loF (up : List UInt8) (ls : List Nat) (k : Nat) : List Nat := (ls.take k).filter (leB up ls)
theorem loF_yes {up : List UInt8} {ls : List Nat} {k : Nat} (h : k < ls.length) (hb : leB up ls ls[k] = true) : loF up ls (k + 1) = loF up ls k ++ [ls[k]] := by
  unfold loF; rw [List.take_succ_eq_append_getElem h, List.filter_append, List.filter_cons, if_pos hb, List.filter_nil]
theorem loF_no {up : List UInt8} {ls : List Nat} {k : Nat} (h : k < ls.length) (hb : leB up ls ls[k] = false) : loF up ls (k + 1) = loF up ls k := by
  unfold loF; rw [List.take_succ_eq_append_getElem h, List.filter_append, List.filter_cons, if_neg (by rw [hb]; decide), List.filter_nil, List.append_nil]
theorem loF_len (up : List UInt8) (ls : List Nat) (k : Nat) : (loF up ls k).length ≤ k := by
  unfold loF
  exact Nat.le_trans (List.length_filter_le _ _) (List.length_take_le _ _)
theorem loF_srt (up : List UInt8) (ls : List Nat) : srt up (fun b => decide (b ∈ loF up ls ls.length)) = srt up (leB up ls) :=
  srt_congr up fun a _ => by
    unfold loF
    rw [List.take_of_length_le (Nat.le_refl _), Bool.eq_iff_iff, decide_eq_true_iff, List.mem_filter]
    exact ⟨fun h => h.2, fun h => ⟨(leB_iff.1 h).1, h⟩⟩
theorem fl_keep {f : Bool} {k : Nat} {p : Nat → Bool} (h : f = (List.range k).all p) (h2 : p k = true) : f = (List.range (k + 1)).all p := by
  rw [List.range_succ, List.all_append, ← h]; simp [h2]
theorem fl_drop {k : Nat} {p : Nat → Bool} (h2 : p k = false) : false = (List.range (k + 1)).all p := by
  rw [List.range_succ, List.all_append]; simp [h2]
theorem ko_n {w W W' : World} {vn vu V : Value} {ns : List ByteArray} {up : List UInt8} {ls L : List Nat} {b off c i k x y base : Nat} {p : Prop} (h : (Kl w vn vu (.slice (some ⟨b, off, none⟩) ls.length c) ns up ls W ∧ p) ∧ Own base W V L) (hb : Below W.heap.size W W') (hi : i < ls.length) (hk : k < ls.length) (hx : ls[i] = x) (hy : ls[k] = y) :
    (Kl w vn vu (.slice (some ⟨b, off, none⟩) ls.length c) ns up ls W' ∧ W'.cell? ⟨w.heap.size, 0, none⟩ = some vn ∧ W'.cell? ⟨w.heap.size, 1, none⟩ = some vu ∧ W'.cell? ⟨b, off + i, none⟩ = some (.int .i64 (x : Int)) ∧ W'.cell? ⟨b, off + k, none⟩ = some (.int .i64 (y : Int))) ∧ Own base W' V L :=
  ⟨kc5n h.1 hb hi hk hx hy, h.2.bel hb⟩
theorem kl_rd2 {w W : World} {vn vu lv : Value} {ns : List ByteArray} {up : List UInt8} {ls : List Nat} {p q : Prop} (h : (Kl w vn vu lv ns up ls W ∧ p) ∧ q) : RdL W.heap.size W (.agg #[vn, vu]) ns up := h.1.1.1.rd
theorem kl_up {w wr w' : World} {vn vu lv : Value} {ns : List ByteArray} {up : List UInt8} {ls : List Nat} (h : Kl w vn vu lv ns up ls wr) (hb : Below (w.heap.size + 1) wr w') (hr : RdL w.heap.size w (.agg #[vn, vu]) ns up) (hz : RdN w.heap.size w lv ls) : Kl w vn vu lv ns up ls w' :=
  ⟨bx_up h.1 hb hr, hz.next (bx_up h.1 hb hr).bel⟩
theorem lt_kl {w W : World} {vn vu lv : Value} {ns : List ByteArray} {up : List UInt8} {ls : List Nat} (h : Kl w vn vu lv ns up ls W) : w.heap.size < W.heap.size := h.1.lt

set_option maxRecDepth 100000 in
set_option maxHeartbeats 8000000 in
theorem rleast_ok (v u : Value) (ns : List ByteArray) (up : List UInt8) (ls : List Nat) (w : World) (hv : RdL w.heap.size w v ns up) (hz : RdN w.heap.size w u ls) (hg : GL ns up ls) :
    Calls Try.prog 20 #[v, u] w (SoT up (leB up ls) w) := by
  have HL := Lib.hid hv
  obtain ⟨⟨vn, vu, rfl, hS, hB⟩, hsz⟩ := hv
  obtain ⟨q1, cap, rfl, hc, hc2, h⟩ := hS
  obtain ⟨q, cap', rfl, hc', hc2', h'⟩ := hB
  clear h h' hsz
  have HZ := Lib.hid hz
  obtain ⟨a, c, rfl, hl, hl2, h⟩ := hz
  clear h
  have HI := Lib.hid (Bx.new HL.out)
  have HG := Lib.hid hg
  have hu8 : up.length ≤ 8 := by have := hg.good.most; have := hg.good.len; omega
  have h64 := hg.most
  clear hg
  obtain ⟨i0, hi, hz0, hz1, hz2⟩ := info_parts info3
  go_enter Try.func20, Try.ntmps20
  go_wp2_with (go_at_call 35; refine (rcheck4_ok _ _ ns up ls _ HI.out.rd (HZ.out.next HI.out.bel) HG.out).mono ?_; rintro e w1 ⟨rfl, hbn⟩; have HI2 := Lib.hid (HI.out.next hbn); clear HI hbn; have HI := HI2; clear HI2)
  go_loopg [8, 9] ls.length (fun g o i wr => ∃ (j : Nat) (V : Value), j + g = ls.length ∧ i = .int .i64 j ∧ V = o ∧ Kl w (.slice q1 ns.length cap) (.slice q up.length cap') (.slice a ls.length c) ns up ls wr ∧ Own (w.heap.size + 1) wr V (loF up ls j))
  case atStart => exact ⟨0, _, by omega, rfl, rfl, ⟨HI.out, HZ.out.next HI.out.bel⟩, World.ownsRow_nil _ _ _ _⟩
  case round =>
    clear HI
    obtain ⟨i, V, hig, rfl, rfl, hkl, hrow⟩ := hrel
    cases gk with
    | zero =>
      have hiz : ¬ ((i : Int) < (ls.length : Int)) := by omega
      have HKe : Hid (i = ls.length) := by unfold Hid; omega
      have HK := Lib.hid hkl
      have hx0 := hkl.1.x0
      have hx1 := hkl.1.x1
      have hr := Own.rd hrow
      have HR := Lib.hid hr
      obtain ⟨oa, oc, rfl, V0, V1, V2⟩ := hr
      clear hkl hrow V0 V1 V2
      have HSo : Hid (Calls Try.prog 36 #[.agg #[.slice q1 ns.length cap, .slice q up.length cap'], .slice oa (loF up ls i).length oc] wr (SoP up (leB up ls) wr)) :=
        (rsorted_any _ _ ns up _ _ HK.out.1.rd HR.out HG.out.good).mono fun e w' h => soP_congr (by rw [HKe.out]; exact loF_srt up ls) h
      go_wp2_with (go_at_call 36; refine HSo.out.mono ?_; rintro e wn ⟨ra, rc, rfl, hrd, hbn⟩; clear hx0 hx1; have HE := Lib.hid (And.intro hrd (HK.out.1.next hbn)); clear hrd hbn)
      go_ret2
      exact ⟨ra, rc, rfl, HE.out.1, HE.out.2.bel⟩
    | succ g =>
      have hilt : (i : Int) < (ls.length : Int) := by omega
      have hi' : i < ls.length := by omega
      go_wp2_with fail
      go_loopg [10, 11] ls.length (fun g2 fl k wr => ∃ (j : Nat) (f : Bool), j + g2 = ls.length ∧ k = .int .i64 j ∧ fl = .bool f ∧ Kl w (.slice q1 ns.length cap) (.slice q up.length cap') (.slice a ls.length c) ns up ls wr ∧ Own (w.heap.size + 1) wr V (loF up ls i) ∧ Hid (f = (List.range j).all (lsI up ls i)))
      case atStart => exact ⟨0, true, by omega, rfl, rfl, hkl, hrow, rfl⟩
      case round =>
        clear hkl hrow
        obtain ⟨k, f, hkg, rfl, rfl, hkl, hrow, hf⟩ := hrel
        cases gk with
        | zero =>
          have hkz : ¬ ((k : Int) < (ls.length : Int)) := by omega
          have HF : Hid (f = leB up ls ls[i]) := by
            have := hf.out
            rw [show k = ls.length by omega] at this
            unfold Hid; rw [this, ls_leB hi']
          clear hf
          cases f with
          | false =>
            have HS : Hid (loF up ls (i + 1) = loF up ls i) := loF_no hi' HF.out.symm
            have HE := Lib.hid (And.intro hkl hrow)
            clear hkl hrow
            go_wp2_with fail
            go_roundg g
            case measure => omega
            case rel => exact ⟨i + 1, V, by omega, by go_num, rfl, HE.out.1, by rw [HS.out]; exact HE.out.2⟩
          | true =>
            have HS : Hid (loF up ls (i + 1) = loF up ls i ++ [ls[i]]) := loF_yes hi' HF.out.symm
            obtain ⟨b0, off, rfl, hlt0, hx⟩ := hkl.2.at i hi'
            have hln : (loF up ls i).length ≤ 64 := Nat.le_trans (loF_len _ _ _) (by omega)
            generalize loF up ls i = L at hrow hln HS
            have hwr := lt_kl hkl
            have HK := Lib.hid hkl
            clear hkl
            go_wp2_with (at_builtin; refine wpList_append_own _ rfl _ _ 26 rfl (w.heap.size + 1) 3 i0 (.int .i64 0) 1 8 Try.underlying26 hi hz0 hz1 hz2 rfl (by decide) _ _ _ rfl (World.ownsRow.alloc hrow _) ⟨wr.heap.size, 0, none⟩ 1 1 [.int .i64 ls[i]] rfl rfl (cells_new wr #[.int .i64 ls[i]] _ _) (by simp [Value.oneCell']) (by unfold maxLen; omega) (by omega) (by simp; omega) ?_; intro v4 w4 hown4 hgrow4 _)
            go_roundg g
            case measure => omega
            case rel => exact ⟨i + 1, v4, by omega, by go_num, rfl, kl_up HK.out (((Below.refl (w.heap.size + 1) wr).alloc (by omega) _).grown hgrow4 (by simp; omega) (fun j e => (World.ownsRow.lt hrow j e).1)) HL.out HZ.out, by rw [HS.out]; exact own_snoc hown4⟩
        | succ g3 =>
          have hklt : (k : Int) < (ls.length : Int) := by omega
          have hk' : k < ls.length := by omega
          obtain ⟨b0, off, rfl, hlt0, V9⟩ := hkl.2.at i hi'
          clear V9
          have HN := Lib.hid (lsI_get (up := up) hi' hk')
          have hxl := HG.out.all ls[i] (List.getElem_mem hi')
          have hyl := HG.out.all ls[k] (List.getElem_mem hk')
          obtain ⟨x, hx⟩ : ∃ x, ls[i] = x := ⟨_, rfl⟩
          obtain ⟨y, hy⟩ : ∃ y, ls[k] = y := ⟨_, rfl⟩
          have HX := Lib.hid hx
          have HY := Lib.hid hy
          rw [hx] at HN hxl
          rw [hy] at HN hyl
          clear hx hy
          have HK := Lib.hid hkl
          have HP := Lib.hid hrow
          clear hkl hrow
          by_cases c1 : y = x
          · have c0 : ((y : Int) != (x : Int)) = false := by rw [c1]; simp
            have HQ : Hid (f = (List.range (k + 1)).all (lsI up ls i)) := fl_keep hf.out (by rw [HN.out, decide_eq_true c1]; rfl)
            have hcy := rd_cell HK.out.2 k hk'
            have hcx := rd_cell HK.out.2 i hi'
            rw [HX.out] at hcx
            rw [HY.out] at hcy
            clear c1
            go_wp2_with fail
            go_quiet (fail)
            clear hcx hcy
            have HE := Lib.hid (And.intro (kl_next HK.out (drewN_below _ nq)) (HP.out.bel (drewN_below _ nq)))
            clear HK HP
            go_wp2_with fail
            go_roundg g3
            case measure => omega
            case rel => exact ⟨k + 1, f, by omega, by go_num, rfl, HE.out.1, HE.out.2, HQ⟩
          · have c0 : ((y : Int) != (x : Int)) = true := by rw [bne_iff_ne]; omega
            cases c2 : le up y x with
            | false =>
              have HQ : Hid (f = (List.range (k + 1)).all (lsI up ls i)) := fl_keep hf.out (by rw [HN.out, c2]; simp)
              have HB1 : Hid (∀ W, RdL W.heap.size W (.agg #[.slice q1 ns.length cap, .slice q up.length cap']) ns up → Calls Try.prog 28 #[.agg #[.slice q1 ns.length cap, .slice q up.length cap'], .int .i64 (y : Nat), .int .i64 (x : Nat)] W fun e w' => e = .returned (.bool false) ∧ Below W.heap.size W w') := fun W hW => by have := rbel_any _ ns up y x W hW (by omega) (by omega); rwa [c2] at this
              clear c1 c2
              go_wp2_with fail
              have hS := HK.out
              have hP := HP.out
              clear HK HP
              go_region_held3 (fun W => (Kl w (.slice q1 ns.length cap) (.slice q up.length cap') (.slice (some ⟨b0, off, none⟩) ls.length c) ns up ls W ∧ W.cell? ⟨w.heap.size, 0, none⟩ = some (.slice q1 ns.length cap) ∧ W.cell? ⟨w.heap.size, 1, none⟩ = some (.slice q up.length cap') ∧ W.cell? ⟨b0, off + k, none⟩ = some (.int .i64 (y : Int)) ∧ W.cell? ⟨b0, off + i, none⟩ = some (.int .i64 (x : Int))) ∧ Own (w.heap.size + 1) W V (loF up ls i))
                ((first | exact ko_n (by assumption) hbn hk' hi' HY.out HX.out | exact ⟨kc5d hS hk' hi' HY.out HX.out, hP.bel (Below.refl _ _).drew⟩))
                ((go_at_call 28; refine (HB1.out _ (kl_rd2 (by assumption))).mono ?_; rintro e wn ⟨rfl, hbn⟩))
              have HE := Lib.hid (by assumption : (Kl _ _ _ _ _ _ _ _ ∧ _) ∧ Own _ _ _ _)
              go_wp2_with fail
              go_roundg g3
              case measure => omega
              case rel => exact ⟨k + 1, f, by omega, by go_num, rfl, HE.out.1.1, HE.out.2, HQ⟩
            | true =>
              have HQ : Hid (false = (List.range (k + 1)).all (lsI up ls i)) := fl_drop (by rw [HN.out, c2, decide_eq_false c1]; rfl)
              have HB1 : Hid (∀ W, RdL W.heap.size W (.agg #[.slice q1 ns.length cap, .slice q up.length cap']) ns up → Calls Try.prog 28 #[.agg #[.slice q1 ns.length cap, .slice q up.length cap'], .int .i64 (y : Nat), .int .i64 (x : Nat)] W fun e w' => e = .returned (.bool true) ∧ Below W.heap.size W w') := fun W hW => by have := rbel_any _ ns up y x W hW (by omega) (by omega); rwa [c2] at this
              clear c1 c2
              go_wp2_with fail
              have hS := HK.out
              have hP := HP.out
              clear HK HP
              go_region_held3 (fun W => (Kl w (.slice q1 ns.length cap) (.slice q up.length cap') (.slice (some ⟨b0, off, none⟩) ls.length c) ns up ls W ∧ W.cell? ⟨w.heap.size, 0, none⟩ = some (.slice q1 ns.length cap) ∧ W.cell? ⟨w.heap.size, 1, none⟩ = some (.slice q up.length cap') ∧ W.cell? ⟨b0, off + k, none⟩ = some (.int .i64 (y : Int)) ∧ W.cell? ⟨b0, off + i, none⟩ = some (.int .i64 (x : Int))) ∧ Own (w.heap.size + 1) W V (loF up ls i))
                ((first | exact ko_n (by assumption) hbn hk' hi' HY.out HX.out | exact ⟨kc5d hS hk' hi' HY.out HX.out, hP.bel (Below.refl _ _).drew⟩))
                ((go_at_call 28; refine (HB1.out _ (kl_rd2 (by assumption))).mono ?_; rintro e wn ⟨rfl, hbn⟩))
              have HE := Lib.hid (by assumption : (Kl _ _ _ _ _ _ _ _ ∧ _) ∧ Own _ _ _ _)
              go_wp2_with fail
              go_roundg g3
              case measure => omega
              case rel => exact ⟨k + 1, false, by omega, by go_num, rfl, HE.out.1.1, HE.out.2, HQ⟩
end Go.Proofs.Ytdkljpoecdinjaa
