/- The law RunesBack: its first part. -/
import Derived.Test.YtfceggpegjjhiaaDoorRuOr
import Derived.Test.YtfceggpegjjhiaaDoorRuJo
import Derived.Deep.DeepCutAuto
import Derived.BigQuiet
namespace Go.Proofs.YtfceggpegjjhiaaDoor
open Go.RowKit

theorem back_enc (r : Nat) (h : isR (r : Int) = true) (m : List UInt8) : decI (enc r ++ m) 0 = (r, (enc r).length, 0) := by
  unfold decI
  have hl : 0 < (enc r ++ m).length := by
    rw [List.length_append]
    have := enc_len r
    split at this <;> (try split at this) <;> (try split at this) <;> omega
  rw [if_neg (by omega)]
  exact dec_enc r h m
theorem back_part (r : Nat) (h : isR (r : Int) = true) (i : Nat) (h0 : 0 < i) (h1 : i < (enc r).length) : decI ((enc r).take i) 0 = (0, 0, 370) := by
  unfold decI
  have hl : 0 < ((enc r).take i).length := by rw [List.length_take]; omega
  rw [if_neg (by omega)]
  exact dec_part r h i h0 h1
theorem enc_small (r : Nat) : (enc r).length ≤ 4 ∧ 0 < (enc r).length := by
  have := enc_len r
  split at this <;> (try split at this) <;> (try split at this) <;> omega

theorem rnF_isR (f : Nat) : ∀ (k : Nat) (l : List UInt8), ∀ p ∈ rnF f k l, isR (p.1 : Int) = true := by
  induction f with
  | zero => intro k l p h; simp [rnF] at h
  | succ f ih =>
    intro k l p h
    unfold rnF at h
    by_cases hd : (dec l).2.2 = 0
    · rw [if_pos hd] at h
      rcases List.mem_cons.1 h with rfl | h
      · exact (enc_dec l (dec l).1 (dec l).2.1 (by rw [← hd])).1
      · exact ih _ _ p h
    · rw [if_neg hd] at h; simp at h
theorem idxF_none : ∀ (l : List Int) (k : Nat), (∀ r ∈ l, isR r = true) → idxF k l = -1
  | [], _, _ => rfl
  | x :: l, k, h => by
    unfold idxF
    rw [if_pos (h x (by simp))]
    exact idxF_none l (k + 1) fun r hr => h r (by simp [hr])
theorem texts_back (b : List UInt8) (h : chkE b = 0) : bytE (runV b) = 0 ∧ bytV (runV b) = b := by
  have hL : bytL (runV b) = b := by
    unfold bytL runV
    rw [if_pos h, List.flatMap_map]
    have := rns_back b h
    rw [List.flatMap_map] at this
    simpa using this
  have hi : idxV (runV b) = -1 := by
    refine idxF_none _ 0 fun r hr => ?_
    unfold runV at hr
    rw [if_pos h] at hr
    obtain ⟨p, hp, rfl⟩ := List.mem_map.1 hr
    exact rnF_isR _ _ _ p hp
  have hE : bytE (runV b) = 0 := by
    unfold bytE
    rw [hi, hL, if_neg (by decide), if_neg (by have := ((chkE_ok b).1 h).1; omega)]
  exact ⟨hE, by unfold bytV; rw [if_pos hE, hL]⟩
theorem texts_fore (l : List Int) (h : bytE l = 0) : chkE (bytV l) = 0 ∧ runV (bytV l) = l := by
  have hV : bytV l = bytL l := by unfold bytV; rw [if_pos h]
  have hi : idxV l = -1 := by
    rcases idxF_ge l 0 with e | e
    · exact e
    · unfold bytE at h; rw [if_pos (by exact e)] at h; cases h
  have h8 : (bytL l).length ≤ 8000 := by
    unfold bytE at h
    rw [hi, if_neg (by decide)] at h
    by_cases h8 : 8000 < (bytL l).length
    · rw [if_pos h8] at h; cases h
    · omega
  have hall := idxF_all l 0 hi
  have h0 : ∀ r ∈ l, ((r.toNat : Nat) : Int) = r := fun r hr => by have := hall r hr; simp [isR] at this; omega
  have e1 : bytL l = (l.map Int.toNat).flatMap enc := by unfold bytL; rw [List.flatMap_map]
  obtain ⟨r1, r2⟩ := rn_fore (l.map Int.toNat) (fun r hr => by
    obtain ⟨x, hx, rfl⟩ := List.mem_map.1 hr
    rw [h0 x hx]; exact hall x hx) (bytL l).length 0 (by rw [e1]; exact Nat.le_refl _)
  rw [← e1] at r1 r2
  have hc : chkE (bytL l) = 0 := (chkE_ok _).2 ⟨h8, by unfold endA; omega⟩
  rw [hV]
  refine ⟨hc, ?_⟩
  unfold runV
  rw [if_pos hc]
  have : (rns (bytL l)).map (fun p => (p.1 : Int)) = ((rns (bytL l)).map (·.1)).map fun (z : Nat) => (z : Int) := by simp
  rw [this]
  unfold rns
  rw [r1, List.map_map]
  conv => rhs; rw [← List.map_id l]
  exact List.map_congr_left fun r hr => h0 r hr

set_option maxRecDepth 100000 in
set_option maxHeartbeats 4000000 in
theorem back_main (r : Int) (vb vl : Value) (b : List UInt8) (l : List Int) (w : World) (hw : Lay w) (hvb : RdB w.heap.size w vb b) (hvl : RdI w.heap.size w vl l) (hnb : NilC vb) (hb : b.length ≤ 200) (hl : l.length ≤ 100) :
    Calls Tryd.prog 6 #[.int .i64 r, vb, vl] w fun e w' => e = .returned (.bool true) ∧ Below w.heap.size w w' := by
  have hvb0 := hvb
  have hvl0 := hvl
  obtain ⟨ab, cb, rfl, hcb, hcb2, hcellb⟩ := hvb
  obtain ⟨al, cl, rfl, hcl, hcelll⟩ := hvl
  clear hcellb hcelll
  have g2 : ¬ (200 : Int) < (b.length : Int) := by omega
  have g3 : ¬ (100 : Int) < (l.length : Int) := by omega
  obtain ⟨xr, hxr⟩ : ∃ e, encE r = e := ⟨_, rfl⟩
  have HXr := Lib.hid hxr
  clear hxr
  go_enter Tryd.func6, Tryd.ntmps6
  go_wp2_with fail
  refine (encode_any r w hw).mono ?_
  rintro e w1 ⟨vx, rfl, hX, hb1⟩
  rw [HXr.out]
  have hs1 := hb1.size
  have hL1 := hw.next hb1
  have hvb1 := hvb0.next hb1
  go_upto_if 45 with fail
  go_cut [] (fun wx => Below w1.heap.size w1 wx)
  case first =>
    cases hr : isR r
    · obtain rfl : xr = 7 := HXr.out.symm.trans (encE_no r hr)
      go_wp2_with fail
      go_meet
      case rel => exact Below.refl _ _
    · obtain rfl : xr = 0 := HXr.out.symm.trans (encE_ok r hr)
      have h0 : 0 ≤ r := by simp [isR] at hr; omega
      obtain ⟨rn, rfl⟩ : ∃ n : Nat, r = n := ⟨r.toNat, by omega⟩
      rw [encB_ok _ hr, Int.toNat_natCast] at hX
      obtain ⟨en4, en0⟩ := enc_small rn
      obtain ⟨m, hm⟩ : ∃ m, enc rn = m := ⟨_, rfl⟩
      rw [hm] at hX en4 en0
      have HM := Lib.hid (And.intro hm (And.intro hr (And.intro en0 HXr.out)))
      clear en0 h0 HXr
      have hz0 : Bys (w1.alloc (.cells #[] 5)) w1.heap.size (.slice (some ⟨w1.heap.size, 0, none⟩) 0 0) [] := World.ownsRow_lit w1 #[] 0 (Nat.le_refl _) (by decide) rfl
      have hB0 := (Below.refl w1.heap.size w1).alloc (Nat.le_refl _) (.cells #[] 5)
      have hX1 : RdB w1.heap.size w1 vx (m) := hX.rd
      have nX : NilC vx := NilC.own hX
      have hX3 := hX1.next hB0
      clear hr hm
      obtain ⟨ax, cx, rfl⟩ := bys_len hX
      go_wp2_with (first
        | (at_builtin; refine wpList_append_bs (by simp [Region.wanted]) _ _ rfl w1.heap.size _ _ rfl hz0 _ _ rfl _ hX3 nX ?c1 ?c2 ?_; rotate_left 2; intro v3 w3 hv3 hg3; have hb3 := hB0.grown hg3 (by simp) (fun j e => (hz0.lt j e).1); have hvb3 := hvb1.next hb3; obtain ⟨a3, c3, rfl⟩ := bys_len hv3; have hs3 := hb3.size)
        | (at_builtin; refine wpList_append_bs (by simp [Region.wanted]) _ _ rfl w1.heap.size _ _ rfl hv3 _ _ rfl _ hvb3 hnb ?c3 ?c4 ?_; rotate_left 2; intro v4 w4 hv4 hg4; have hb4 := hb3.grown hg4 (by omega) (fun j e => (hv3.lt j e).1); obtain ⟨a4, c4, rfl⟩ := bys_len hv4; have hs4 := hb4.size))
      case c1 => simp; omega
      case c2 => simp
      case c3 => simp; omega
      case c4 => omega
      have hrd : RdB w4.heap.size w4 (.slice a4 ((m).length + b.length) c4) (m ++ b) := by have := hv4.rd; simpa using this
      have hL4 := hL1.next hb4
      have HD := Lib.hid (decode_any (m ++ b) _ 0 w4 hL4 hrd)
      have hde : decI (m ++ b) 0 = (rn, m.length, 0) := by rw [← HM.out.1]; exact back_enc rn HM.out.2.1 b
      rw [hde] at HD
      clear hde
      have HmX := Lib.hid (And.intro hX hX1)
      clear hX hX1 hX3 nX hz0 hB0 hv4 hv3 hb3 hvb3 hg3 hg4
      refine HD.out.mono ?_
      rintro e w5 ⟨rfl, hb5⟩
      have hB5 := Lib.hid (hb4.trans (hb5.mono hs4))
      have hX5 : RdB w5.heap.size w5 _ m := HmX.out.2.next hB5.out
      have hL5 := hL1.next hB5.out
      obtain ⟨hcx1, hcx2⟩ : m.length ≤ cx ∧ cx ≤ 9223372036854775807 := by
        obtain ⟨_, _, e, h1, h2, _⟩ := hX5
        cases e
        exact ⟨h1, h2⟩
      clear hb5 hb4 hrd hL4 HD
      unfold tup3
      go_wp2_with fail
      go_loopw [12] (fun i wr => ∃ k : Nat, k ≤ m.length ∧ i = .int .i64 k ∧ Below w5.heap.size w5 wr) (fun i _ => m.length - (intOf i).toNat)
      case atStart => exact ⟨0, by omega, rfl, Below.refl _ _⟩
      case round =>
        obtain ⟨k, hk, rfl, hbl⟩ := hrel
        have hsz := hbl.size
        by_cases hlt : k < m.length
        · have hi1 : (k : Int) < (m.length : Int) := by omega
          have hXr := (hX5.next hbl).takeB k hk
          have HD := Lib.hid (decode_any (m.take k) _ 0 wr (hL5.next hbl) hXr)
          rcases Nat.eq_zero_or_pos k with h0 | h0
          · subst h0
            have e0 : decI (m.take 0) 0 = (0, 0, 7) := rfl
            rw [e0] at HD
            unfold tup3 at HD
            clear e0
            go_wp2_with fail
            refine HD.out.mono ?_
            rintro e w6 ⟨rfl, hb6⟩
            have hB6 := Lib.hid (hbl.trans (hb6.mono hsz))
            clear hb6 hbl
            go_wp2_with fail
            go_roundw
            case rel => exact ⟨1, by omega, by go_num, hB6.out⟩
            case measure => simp [intOf]; try omega
          · have hdp : decI (m.take k) 0 = (0, 0, 370) := by
              have := back_part rn HM.out.2.1 k h0 (by rw [HM.out.1]; exact hlt)
              rwa [HM.out.1] at this
            rw [hdp] at HD
            clear hdp
            unfold tup3 at HD
            have hk0 : (0 : Int) < (k : Int) := by omega
            have hke : ((k : Int) == 0) = false := by rw [beq_eq_false_iff_ne]; omega
            have hk4 : (k : Int) ≤ 4 := by omega
            go_wp2_with fail
            refine HD.out.mono ?_
            rintro e w6 ⟨rfl, hb6⟩
            have hB6 := Lib.hid (hbl.trans (hb6.mono hsz))
            have HK := Lib.hid hlt
            clear hb6 hbl h0 hlt
            go_wp2_with fail
            go_roundw
            case rel => exact ⟨k + 1, by have := HK.out; omega, by go_num, hB6.out⟩
            case measure => have := HK.out; simp [intOf]; try omega
        · have hi1 : ¬ (k : Int) < (m.length : Int) := by omega
          go_wp2_with fail
          go_meet
          case rel => exact hB5.out.trans (hbl.mono hB5.out.size)
  case rest =>
    have hsc := hcut.size
    have HB := Lib.hid (hb1.trans (hcut.mono hs1))
    have hLc := hL1.next hcut
    have hvbc := hvb1.next hcut
    have hvlc := hvl0.next HB.out
    clear hcut hb1 hvb1 hL1 hsc hs1 hX HXr hvb0 hvl0
    go_wp2_with fail
    go_loopw [16] (fun at' wr => ∃ k : Nat, k ≤ b.length ∧ at' = .int .i64 k ∧ Below wc.heap.size wc wr) (fun i _ => b.length - (intOf i).toNat)
    case atStart => exact ⟨0, by omega, rfl, Below.refl _ _⟩
    case round =>
      obtain ⟨k, hk, rfl, hbl⟩ := hrel
      have hsz := hbl.size
      have hLr := hLc.next hbl
      have hvr := hvbc.next hbl
      by_cases hlt : k < b.length
      · have hi1 : (k : Int) < (b.length : Int) := by omega
        have HD := Lib.hid (decode_any b _ (k : Int) wr hLr hvr)
        have hdk : decI b k = dec (b.drop k) := by unfold decI; rw [if_neg (by omega), Int.toNat_natCast]
        rw [hdk] at HD
        clear hdk
        obtain ⟨R, K, E, hd⟩ : ∃ R K E, dec (b.drop k) = (R, K, E) := ⟨_, _, _, rfl⟩
        rw [hd] at HD
        unfold tup3 at HD
        have HK := Lib.hid hlt
        by_cases hE : E = 0
        · subst hE
          obtain ⟨f1, f2, f3, f4, f5⟩ := enc_dec (b.drop k) R K hd
          rw [List.length_drop] at f3
          go_wp2_with fail
          refine HD.out.mono ?_
          rintro e w6 ⟨rfl, hb6⟩
          have hL6 := hLr.next hb6
          have hv6 := hvr.next hb6
          go_wp2_with fail
          refine (encode_ok R w6 hL6 f1).mono ?_
          rintro e w7 ⟨vc, rfl, hC, hb7⟩
          rw [f5] at hC
          have hbw : Below wc.heap.size wc w7 := (hbl.trans (hb6.mono hsz)).trans (hb7.mono (Nat.le_trans hsz hb6.size))
          have HW := Lib.hid hbw
          have hv7 := hv6.next hb7
          have cC := fun n => conv_bys (own_below hC (below_drewN (Below.refl w7.heap.size w7) n))
          have hlen : ((b.drop k).take K).length = K := by simp; omega
          obtain ⟨ac, cc, rfl⟩ := bys_len hC
          rw [hlen] at cC
          rw [hlen]
          have hkc : ¬ cb = k := by omega
          have hkK : ¬ (b.length : Int) < (k : Int) + (K : Int) := by omega
          have hkN : decide (b.length < k + K) = false := decide_eq_false (by omega)
          have hkI : decide ((b.length : Int) < (k : Int) + (K : Int)) = false := decide_eq_false hkK
          have hK4 : (K : Int) ≤ 4 := by omega
          have hk2 : (k : Int) ≤ 200 := by omega
          have hcr := fun n => conv_rd (((hv7.dropB k hk).takeB K (by rw [List.length_drop]; omega)).below (below_drewN (Below.refl w7.heap.size w7) n))
          clear hbl hb6 hb7 hbw hL6 hLr hvr hv6 HD
          have hw1 : IntKind.i64.wrap ((k : Int) + (K : Int)) = (k : Int) + (K : Int) := by rw [IntKind.wrap_i64]; omega
          go_wp2_with fail
          go_quiet (fail)
          generalize hW1 : w7.drewN nq = W1
          have hBW := Lib.hid (hW1 ▸ below_drewN HW.out nq)
          clear hW1
          go_wp2_with fail
          go_roundw
          case rel => exact ⟨k + 1, by have := HK.out; omega, by go_num, hBW.out⟩
          case measure => have := HK.out; simp [intOf]; try omega
        · have hE1 : ((E : Int) != 0) = true := by rw [bne_iff_ne]; omega
          clear hE
          go_wp2_with fail
          refine HD.out.mono ?_
          rintro e w6 ⟨rfl, hb6⟩
          have hB6 := Lib.hid (hbl.trans (hb6.mono hsz))
          clear hb6 hbl hlt
          go_wp2_with fail
          go_roundw
          case rel => exact ⟨k + 1, by have := HK.out; omega, by go_num, hB6.out⟩
          case measure => have := HK.out; simp [intOf]; try omega
      · have hi1 : ¬ (k : Int) < (b.length : Int) := by omega
        have hvlr := hvlc.next hbl
        have HB2 := Lib.hid (HB.out.trans (hbl.mono HB.out.size))
        clear hbl hsz hLc hvbc hvlc HB
        obtain ⟨eb, heb⟩ : ∃ e, chkE b = e := ⟨_, rfl⟩
        have HEb := Lib.hid heb
        clear heb
        go_wp2_with fail
        refine (runes_any _ b wr hLr hvr).mono ?_
        rintro e w8 ⟨vu, rfl, hU, hb8⟩
        rw [HEb.out]
        have hs8 := hb8.size
        have HB8 := Lib.hid (HB2.out.trans (hb8.mono HB2.out.size))
        have hL8 := hLr.next hb8
        have hv8 := hvr.next hb8
        have hvl8 := hvlr.next hb8
        clear hb8 hLr hvr hvlr
        go_upto_if 151 with fail
        go_cut [] (fun wx => Below w8.heap.size w8 wx)
        case first =>
          by_cases hz : eb = 0
          · subst hz
            obtain ⟨t1, t2⟩ := texts_back b HEb.out
            have nX := rns_len b
            have lX : (runV b).length ≤ 200 := by unfold runV; split <;> simp; omega
            have HBy := Lib.hid (bytes_any vu (runV b) w8 hL8 hU.rd (by omega))
            rw [t1, t2] at HBy
            clear t1 t2 nX lX hU
            go_wp2_with fail
            refine HBy.out.mono ?_
            rintro e w9 ⟨vd, rfl, hD, hb9⟩
            have q1 := conv_bys hD
            have q2 := conv_rd (hv8.next hb9)
            have H9 := Lib.hid hb9
            clear hb9 hD HBy
            go_wp2_with fail
            go_meet
            case rel => exact H9.out
          · have hne : ((eb : Int) == 0) = false := by rw [beq_eq_false_iff_ne]; omega
            clear hz hU
            go_wp2_with fail
            go_meet
            case rel => exact Below.refl _ _
        case rest =>
          have HBb := Lib.hid (bytes_any _ l _ (hL8.next hcut) (hvl8.next hcut) (by omega))
          have HB9 := Lib.hid (HB8.out.trans (hcut.mono HB8.out.size))
          have HL9 := Lib.hid (hL8.next hcut)
          have HVl := Lib.hid (hvl8.next hcut)
          clear hcut hU hv8 hvl8 hL8 HEb
          obtain ⟨el, hel⟩ : ∃ e, bytE l = e := ⟨_, rfl⟩
          have HEl := Lib.hid hel
          rw [hel] at HBb
          clear hel
          go_wp2_with fail
          refine HBb.out.mono ?_
          rintro e w10 ⟨vd, rfl, hD, hb10⟩
          have HB10 := Lib.hid (HB9.out.trans (hb10.mono HB9.out.size))
          have hL10 := HL9.out.next hb10
          have hvl10 := HVl.out.next hb10
          clear hb10 HBb HB9
          go_upto_if 174 with fail
          go_cut [] (fun wx => Below w10.heap.size w10 wx)
          case first =>
            by_cases hz : el = 0
            · subst hz
              obtain ⟨t1, t2⟩ := texts_fore l HEl.out
              have HRu := Lib.hid (runes_any vd (bytV l) w10 hL10 hD.rd)
              rw [t1, t2] at HRu
              clear t1 t2 hD
              go_wp2_with fail
              refine HRu.out.mono ?_
              rintro e w11 ⟨ve, rfl, hE, hb11⟩
              have cS := same_any ve _ l l w11 hE.rd (hvl10.next hb11) (by omega)
              rw [decide_eq_true rfl] at cS
              have HS := Lib.hid cS
              have H11 := Lib.hid hb11
              obtain ⟨ae, ce, rfl⟩ := own_len hE
              clear hb11 hE cS HRu
              go_wp2_with fail
              refine HS.out.mono ?_
              rintro e w12 ⟨rfl, hb12⟩
              have H12 := Lib.hid (H11.out.trans (hb12.mono H11.out.size))
              clear hb12
              go_wp2_with fail
              go_meet
              case rel => exact H12.out
            · have hne : ((el : Int) == 0) = false := by rw [beq_eq_false_iff_ne]; omega
              clear hz hD
              go_wp2_with fail
              go_meet
              case rel => exact Below.refl _ _
          case rest =>
            have HA := Lib.hid (awake_any _ (hL10.next hcut))
            have HC := Lib.hid (HB10.out.trans (hcut.mono HB10.out.size))
            clear hcut hD hvl10 hL10
            go_wp2_with fail
            refine HA.out.mono ?_
            rintro e w13 ⟨rfl, hb13⟩
            have H13 := Lib.hid (HC.out.trans (hb13.mono HC.out.size))
            clear hb13
            go_wp2_with fail
            go_ret
            exact ⟨rfl, H13.out⟩

set_option maxRecDepth 100000 in
set_option maxHeartbeats 4000000 in
theorem lawBack_any (r : Int) (vb vl : Value) (b : List UInt8) (l : List Int) (w : World) (hw : Lay w) (hvb : RdB w.heap.size w vb b) (hvl : RdI w.heap.size w vl l) (hnb : NilC vb) :
    Calls Tryd.prog 6 #[.int .i64 r, vb, vl] w fun e w' => e = .returned (.bool true) ∧ Below w.heap.size w w' := by
  by_cases h : b.length ≤ 200 ∧ l.length ≤ 100
  · exact back_main r vb vl b l w hw hvb hvl hnb h.1 h.2
  · obtain ⟨ab, cb, rfl, hcb, hcb2, hcellb⟩ := hvb
    obtain ⟨al, cl, rfl, hcl, hcelll⟩ := hvl
    clear hcellb hcelll
    have HW := Lib.hid (awake_any w hw)
    rcases (show 200 < b.length ∨ (¬ 200 < b.length ∧ 100 < l.length) by omega) with h1 | ⟨h1, h2⟩
    · have d1 : decide ((200 : Int) < (b.length : Int)) = true := decide_eq_true (by omega)
      clear h
      go_enter Tryd.func6, Tryd.ntmps6
      go_wp2_with (go_at_call 11; refine HW.out.mono ?_; rintro e w7 ⟨rfl, hb7⟩)
      go_ret
      exact ⟨rfl, hb7⟩
    · have d1 : decide ((200 : Int) < (b.length : Int)) = false := decide_eq_false (by omega)
      have d2 : decide ((100 : Int) < (l.length : Int)) = true := decide_eq_true (by omega)
      clear h
      go_enter Tryd.func6, Tryd.ntmps6
      go_wp2_with (go_at_call 11; refine HW.out.mono ?_; rintro e w7 ⟨rfl, hb7⟩)
      go_ret
      exact ⟨rfl, hb7⟩
end Go.Proofs.YtfceggpegjjhiaaDoor
