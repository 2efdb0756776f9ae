/- The law RunesOrder as a walk. -/
import Derived.Test.YtfceggpegjjhiaaDoorRuZ
import Derived.Test.YtfceggpegjjhiaaDoorRuJo
import Derived.Deep.DeepCutAuto
namespace Go.Proofs.YtfceggpegjjhiaaDoor
open Go.RowKit

theorem RdB.takeB {B : Nat} {w : World} {a : Option Addr} {n cap : Nat} {zs : List UInt8} (h : RdB B w (.slice a n cap) zs) (k : Nat) (hk : k ≤ zs.length) : RdB B w (.slice a k cap) (zs.take k) := by
  obtain ⟨a', cap', e, hc, hc2, hh⟩ := h
  cases e
  have hl : (zs.take k).length = k := by simp; omega
  refine ⟨a, cap, by rw [hl], by rw [hl]; omega, hc2, fun hne => ?_⟩
  obtain ⟨b, off, ha, hb, hcell⟩ := hh (by intro e; subst e; simp at hne)
  refine ⟨b, off, ha, hb, fun j hj => ?_⟩
  rw [hl] at hj
  rw [hcell j (by omega)]; simp
theorem RdB.dropB {B : Nat} {w : World} {a : Option Addr} {n cap : Nat} {zs : List UInt8} (h : RdB B w (.slice a n cap) zs) (k : Nat) (hk : k ≤ zs.length) : RdB B w (.slice (a.map fun x => x.add k) (n - k) (cap - k)) (zs.drop k) := by
  obtain ⟨a', cap', e, hc, hc2, hh⟩ := h
  cases e
  have hl : (zs.drop k).length = zs.length - k := by simp
  refine ⟨a.map fun x => x.add k, cap - k, by rw [hl], by rw [hl]; omega, by omega, fun hne => ?_⟩
  have hlt : k < zs.length := by
    rcases Nat.lt_or_ge k zs.length with h | h
    · exact h
    · exact absurd (List.drop_eq_nil_of_le h) hne
  obtain ⟨b, off, rfl, hb, hcell⟩ := hh (by intro e; subst e; simp at hlt)
  refine ⟨b, off + k, by simp [Addr.add], hb, fun j hj => ?_⟩
  rw [hl] at hj
  have := hcell (k + j) (by omega)
  rw [Nat.add_assoc, this]; simp
theorem RdB.dropEnd {B : Nat} {w : World} {a : Option Addr} {n k cap : Nat} {zs : List UInt8} (h : RdB B w (.slice a n cap) zs) (e : cap = k) (hk : k ≤ zs.length) : RdB B w (.slice a (n - k) 0) (zs.drop k) := by
  subst e
  obtain ⟨a', cap', e, hc, hc2, hh⟩ := h
  cases e
  have hn : zs.drop cap = [] := List.drop_eq_nil_of_le hc
  rw [hn]
  exact ⟨a, 0, by simp; omega, Nat.le_refl _, by omega, fun hne => absurd rfl hne⟩
theorem rns_le (l : List UInt8) : (rns l).length ≤ l.length := rns_len l
theorem at_small {b : List UInt8} (h : b.length ≤ 200) (k : Nat) : ats b k ≤ 201 := by
  have h1 := ats_le b k
  have h2 := rns_len b
  unfold sts at h1
  rw [List.length_cons, List.length_map] at h1
  omega
theorem at_facts {b : List UInt8} {k gl cl : Nat} {B : Nat} {w : World} (h : chkE b = 0) (hm : k ∈ sts b) (hl : RdI B w (.slice (some ⟨gl, 0, none⟩) (staV b).length cl) (staV b)) :
    (ats b k : Int) < ((staV b).length : Int) ∧ gl < B ∧ w.cell? ⟨gl, ats b k, none⟩ = some (.int .i64 (k : Int)) ∧ ats b (k + 1) = ats b k + 1 := by
  have hk := sta_at b h k hm
  obtain ⟨hlt, he⟩ := List.getElem?_eq_some_iff.1 hk
  obtain ⟨a, cap, e, hc, hh⟩ := hl
  cases e
  obtain ⟨g, off, ha, hg, hcell⟩ := hh (by intro e; rw [e] at hlt; simp at hlt)
  cases ha
  have := hcell (ats b k) hlt
  rw [he, Nat.zero_add] at this
  exact ⟨by omega, hg, this, (ats_mem b k hm).2⟩
set_option maxRecDepth 100000 in
set_option maxHeartbeats 8000000 in
theorem order_main (r s : Int) (vb : Value) (b : List UInt8) (w : World) (hw : Lay w) (hvb : RdB w.heap.size w vb b) (hb : b.length ≤ 200) :
    Calls Tryd.prog 7 #[.int .i64 r, .int .i64 s, vb] w fun e w' => e = .returned (.bool true) ∧ Below w.heap.size w w' := by
  have hvb0 := hvb
  obtain ⟨ab, cb, rfl, hcb, hcb2, hcellb⟩ := hvb
  clear hcellb
  have g2 : ¬ (200 : Int) < (b.length : Int) := by omega
  obtain ⟨eb, heb⟩ : ∃ e, chkE b = e := ⟨_, rfl⟩
  obtain ⟨xr, hxr⟩ : ∃ e, encE r = e := ⟨_, rfl⟩
  obtain ⟨xs, hxs⟩ : ∃ e, encE s = e := ⟨_, rfl⟩
  have HEb := Lib.hid heb
  have HXr := Lib.hid hxr
  have HXs := Lib.hid hxs
  clear heb hxr hxs
  go_enter Tryd.func7, Tryd.ntmps7
  go_wp2_with fail
  refine (encode_any r w hw).mono ?_
  rintro e w1 ⟨vx, rfl, hX, hb1⟩
  rw [HXr.out]
  have hs1 := hb1.size
  have hL1 := hw.next hb1
  have hvb1 := hvb0.next hb1
  go_wp2_with fail
  refine (encode_any s w1 hL1).mono ?_
  rintro e w2 ⟨vy, rfl, hY, hb2⟩
  rw [HXs.out]
  have hs2 := hb2.size
  have hL2 := hL1.next hb2
  have hX2 : Bys w2 w.heap.size vx (encB r) := own_below hX hb2
  have hvb2 := hvb1.next hb2
  have H2 := Lib.hid (hb1.trans (hb2.mono hs1))
  have cx := conv_bys hX2
  have cy := conv_bys hY
  clear hb1 hb2 hX hvb1 hL1 hs1 hX2 hY
  go_upto_region 5 with fail
  go_cut [64] (fun s64 wx => w2 = wx ∧ s64 = .bool false)
  case first =>
    cases hr : isR r
    · obtain rfl : xr = 7 := HXr.out.symm.trans (encE_no r hr)
      go_wp2_with fail
      go_meet
      case rel => exact ⟨rfl, rfl⟩
    · obtain rfl : xr = 0 := HXr.out.symm.trans (encE_ok r hr)
      cases hs : isR s
      · obtain rfl : xs = 7 := HXs.out.symm.trans (encE_no s hs)
        go_wp2_with fail
        go_meet
        case rel => exact ⟨rfl, rfl⟩
      · obtain rfl : xs = 0 := HXs.out.symm.trans (encE_ok s hs)
        obtain ⟨q1, q2⟩ := enc_cmp r s hr hs
        have q3 : (encB r = encB s) ↔ r = s := by rw [← beq_iff_eq, q2, decide_eq_true_eq]
        go_wp2_with fail
        go_meet
        case rel => exact ⟨rfl, by by_cases h : r = s <;> simp [h]⟩
  case rest =>
    obtain ⟨rfl, rfl⟩ := hcut
    go_wp2_with fail
    refine (starts_any _ b w2 hL2 hvb2).mono ?_
    rintro e w3 ⟨vl, rfl, hl, hb3⟩
    rw [HEb.out]
    have hs3 := hb3.size
    have hL3 := hL2.next hb3
    have hvb3 := hvb2.next hb3
    have H3 := Lib.hid (H2.out.trans (hb3.mono H2.out.size))
    clear hb3 hvb2 hL2 cx cy hs3 hs2 HXr HXs
    by_cases heb : eb = 0
    · subst heb
      have pS : 0 < (staV b).length := by rw [sta_ok b HEb.out]; simp [sts]
      obtain ⟨gl, cl, rfl⟩ := ownsRow_form' hl pS
      have hl3 := hl.rd
      clear hl
      go_wp2_with fail
      go_loopw [12, 13] (fun at' i wr => ∃ k : Nat, k ≤ b.length + 1 ∧ i = .int .i64 k ∧ at' = .int .i64 (ats b k : Nat) ∧ Below w3.heap.size w3 wr) (fun _ i _ => b.length + 1 - (intOf i).toNat)
      case atStart => exact ⟨0, by omega, rfl, by rw [ats_zero]; rfl, Below.refl _ _⟩
      case round =>
        obtain ⟨k, hk, rfl, rfl, hbl⟩ := hrel
        have hsz := hbl.size
        have hLr := hL3.next hbl
        have hvr := hvb3.next hbl
        by_cases hlt : k ≤ b.length
        · have hi1 : (k : Int) ≤ (b.length : Int) := by omega
          by_cases hm : k ∈ sts b
          · obtain ⟨c1, c2, c3, c4, c5⟩ := on_yes b HEb.out k hlt hm
            have HO := Lib.hid (on_any _ b k wr hLr hvr)
            rw [c5, c3] at HO
            have HM := Lib.hid hm
            clear hm
            go_wp2_with fail
            refine HO.out.mono ?_
            rintro e wa ⟨rfl, hba⟩
            have hLa := hLr.next hba
            have hva := hvr.next hba
            have HBk := Lib.hid (back_any _ b k wa hLa hva)
            rw [c4, c3] at HBk
            go_wp2_with fail
            refine HBk.out.mono ?_
            rintro e wb ⟨rfl, hbb⟩
            have hLb := hLa.next hbb
            have hvbb := hva.next hbb
            go_wp2_with fail
            have HC1 := Lib.hid (check_any _ (b.take k) wb hLb (hvbb.takeB k hlt))
            rw [c1] at HC1
            refine HC1.out.mono ?_
            rintro e wc' ⟨rfl, hbc⟩
            have hLc := hLb.next hbc
            have hvc := hvbb.next hbc
            have hb3c : Below w3.heap.size w3 wc' := ((hbl.trans (hba.mono hsz)).trans (hbb.mono (Nat.le_trans hsz hba.size))).trans (hbc.mono (Nat.le_trans hsz (Nat.le_trans hba.size hbb.size)))
            have hsc := hb3c.size
            have HAt := Lib.hid (at_facts HEb.out HM.out hl3)
            clear hbl hba hbb hbc hLr hvr hLa hva hLb hvbb
            go_wp2_with fail
            · have hcbk : cb = k := by omega
              subst hcbk
              have HC2 := Lib.hid (check_any _ (b.drop cb) wc' hLc (hvc.dropEnd rfl hlt))
              rw [c2] at HC2
              refine HC2.out.mono ?_
              rintro e wd ⟨rfl, hbd⟩
              have hb3d : Below w3.heap.size w3 wd := hb3c.trans (hbd.mono hsc)
              obtain ⟨a0, a1, a2, a3⟩ := HAt.out
              have hmz : ¬ ((cb : Int) < (cb : Int) - 3) := by omega
              have hk2 : (cb : Int) ≤ 200 := by omega
              have ha2 : (ats b cb : Int) ≤ 201 := by have := at_small hb cb; omega
              have hcl : wd.cell? ⟨gl, ats b cb, none⟩ = some (.int .i64 (cb : Int)) := (hb3d.cell (p := ⟨gl, ats b cb, none⟩) a1).trans a2
              have HF := Lib.hid (And.intro a3 (And.intro hlt (And.intro hk hb)))
              clear hvc hLc hb3c hsc hbd a1 a2 a3 HC2 hi1 hcb hcb2 hk hb hvb3 hL3 hvb0 hw hl3 pS g2
              go_wp2_with fail
              go_roundw
              case rel => exact ⟨cb + 1, by have := HF.out.2.1; omega, by go_num, by rw [HF.out.1]; go_num, hb3d⟩
              case measure => have := HF.out.2.1; simp [intOf]; try omega
            · have HC2 := Lib.hid (check_any _ (b.drop k) wc' hLc (hvc.dropB k hlt))
              rw [c2] at HC2
              refine HC2.out.mono ?_
              rintro e wd ⟨rfl, hbd⟩
              have hb3d : Below w3.heap.size w3 wd := hb3c.trans (hbd.mono hsc)
              obtain ⟨a0, a1, a2, a3⟩ := HAt.out
              have hmz : ¬ ((k : Int) < (k : Int) - 3) := by omega
              have hk2 : (k : Int) ≤ 200 := by omega
              have ha2 : (ats b k : Int) ≤ 201 := by have := at_small hb k; omega
              have hcl : wd.cell? ⟨gl, ats b k, none⟩ = some (.int .i64 (k : Int)) := (hb3d.cell (p := ⟨gl, ats b k, none⟩) a1).trans a2
              have HF := Lib.hid (And.intro a3 (And.intro hlt (And.intro hk hb)))
              clear hvc hLc hb3c hsc hbd a1 a2 a3 HC2 hi1 hcb hcb2 hk hb hvb3 hL3 hvb0 hw hl3 pS g2
              go_wp2_with fail
              go_roundw
              case rel => exact ⟨k + 1, by have := HF.out.2.1; omega, by go_num, by rw [HF.out.1]; go_num, hb3d⟩
              case measure => have := HF.out.2.1; simp [intOf]; try omega
          · obtain ⟨cg, c2, c3', c4', c5⟩ := on_not b HEb.out k hlt hm
            have hat := ats_not b k hm
            have HO := Lib.hid (on_any _ b k wr hLr hvr)
            rw [c5, c2] at HO
            clear hm c5
            go_wp2_with fail
            refine HO.out.mono ?_
            rintro e wa ⟨rfl, hba⟩
            have hLa := hLr.next hba
            have hva := hvr.next hba
            have HBk := Lib.hid (back_any _ b k wa hLa hva)
            rw [c2] at HBk
            clear c2
            obtain ⟨q, hq⟩ : ∃ q, bakV b k = q := ⟨_, rfl⟩
            rw [hq] at HBk c3' c4'
            clear hq
            go_wp2_with fail
            refine HBk.out.mono ?_
            rintro e wb ⟨rfl, hbb⟩
            have hLb := hLa.next hbb
            have hvbb := hva.next hbb
            have HC1 := Lib.hid (check_any _ (b.take k) wb hLb (hvbb.takeB k hlt))
            obtain ⟨qg, hqg⟩ : ∃ q, chkE (b.take k) = q := ⟨_, rfl⟩
            obtain ⟨qh, hqh⟩ : ∃ q, chkE (b.drop k) = q := ⟨_, rfl⟩
            rw [hqg, hqh] at cg
            rw [hqg] at HC1
            have Hcg := Lib.hid cg
            have Hc34 := Lib.hid (And.intro c3' c4')
            go_wp2_with fail
            by_cases hg0 : qg = 0
            · subst hg0
              have Hqh0 : Hid (qh ≠ 0) := fun e => Hcg.out ⟨rfl, e⟩
              refine HC1.out.mono ?_
              rintro e wc' ⟨rfl, hbc⟩
              have hLc := hLb.next hbc
              have hvc := hvbb.next hbc
              have hb3c : Below w3.heap.size w3 wc' := ((hbl.trans (hba.mono hsz)).trans (hbb.mono (Nat.le_trans hsz hba.size))).trans (hbc.mono (Nat.le_trans hsz (Nat.le_trans hba.size hbb.size)))
              have hsc := hb3c.size
              clear hbl hba hbb hbc hLr hvr hLa hva hLb hvbb
              go_wp2_with fail
              · have hcbk : cb = k := by omega
                subst hcbk
                have HC2 := Lib.hid (check_any _ (b.drop cb) wc' hLc (hvc.dropEnd rfl hlt))
                rw [hqh] at HC2
                refine HC2.out.mono ?_
                rintro e wd ⟨rfl, hbd⟩
                have hb3d : Below w3.heap.size w3 wd := hb3c.trans (hbd.mono hsc)
                have hk2 : (cb : Int) ≤ 200 := by omega
                have ha2 : (ats b cb : Int) ≤ 201 := by have := at_small hb cb; omega
                have e1 : ((q : Int) == (cb : Int)) = false := by rw [beq_eq_false_iff_ne]; omega
                have e2 : ¬ (cb : Int) < (q : Int) := by omega
                have e3 : ¬ (q : Int) < (cb : Int) - 3 := by omega
                have e4 : ((qh : Int) == 0) = false := by rw [beq_eq_false_iff_ne]; have := Hqh0.out; omega
                have HF := Lib.hid (And.intro hat (And.intro hlt (And.intro hk hb)))
                clear hvc hLc hb3c hsc hbd hat HC2 hi1 hcb hcb2 hk hb hvb3 hL3 hvb0 hw hl3 pS g2 c3' c4' hqh hqg cg
                go_wp2_with fail
                go_roundw
                case rel => exact ⟨cb + 1, by have := HF.out.2.1; omega, by go_num, by rw [HF.out.1], hb3d⟩
                case measure => have := HF.out.2.1; simp [intOf]; try omega
              · have HC2 := Lib.hid (check_any _ (b.drop k) wc' hLc (hvc.dropB k hlt))
                rw [hqh] at HC2
                refine HC2.out.mono ?_
                rintro e wd ⟨rfl, hbd⟩
                have hb3d : Below w3.heap.size w3 wd := hb3c.trans (hbd.mono hsc)
                have hk2 : (k : Int) ≤ 200 := by omega
                have ha2 : (ats b k : Int) ≤ 201 := by have := at_small hb k; omega
                have e1 : ((q : Int) == (k : Int)) = false := by rw [beq_eq_false_iff_ne]; omega
                have e2 : ¬ (k : Int) < (q : Int) := by omega
                have e3 : ¬ (q : Int) < (k : Int) - 3 := by omega
                have e4 : ((qh : Int) == 0) = false := by rw [beq_eq_false_iff_ne]; have := Hqh0.out; omega
                have HF := Lib.hid (And.intro hat (And.intro hlt (And.intro hk hb)))
                clear hvc hLc hb3c hsc hbd hat HC2 hi1 hcb hcb2 hk hb hvb3 hL3 hvb0 hw hl3 pS g2 c3' c4' hqh hqg cg
                go_wp2_with fail
                go_roundw
                case rel => exact ⟨k + 1, by have := HF.out.2.1; omega, by go_num, by rw [HF.out.1], hb3d⟩
                case measure => have := HF.out.2.1; simp [intOf]; try omega
            · have Hqg0 : Hid (qg ≠ 0) := hg0
              clear hg0
              refine HC1.out.mono ?_
              rintro e wc' ⟨rfl, hbc⟩
              have hLc := hLb.next hbc
              have hvc := hvbb.next hbc
              have hb3c : Below w3.heap.size w3 wc' := ((hbl.trans (hba.mono hsz)).trans (hbb.mono (Nat.le_trans hsz hba.size))).trans (hbc.mono (Nat.le_trans hsz (Nat.le_trans hba.size hbb.size)))
              have hsc := hb3c.size
              clear hbl hba hbb hbc hLr hvr hLa hva hLb hvbb
              go_wp2_with fail
              · have hcbk : cb = k := by omega
                subst hcbk
                have HC2 := Lib.hid (check_any _ (b.drop cb) wc' hLc (hvc.dropEnd rfl hlt))
                rw [hqh] at HC2
                refine HC2.out.mono ?_
                rintro e wd ⟨rfl, hbd⟩
                have hb3d : Below w3.heap.size w3 wd := hb3c.trans (hbd.mono hsc)
                have hk2 : (cb : Int) ≤ 200 := by omega
                have ha2 : (ats b cb : Int) ≤ 201 := by have := at_small hb cb; omega
                have e1 : ((q : Int) == (cb : Int)) = false := by rw [beq_eq_false_iff_ne]; omega
                have e2 : ¬ (cb : Int) < (q : Int) := by omega
                have e3 : ¬ (q : Int) < (cb : Int) - 3 := by omega
                have e4 : ((qg : Int) == 0) = false := by rw [beq_eq_false_iff_ne]; have := Hqg0.out; omega
                have HF := Lib.hid (And.intro hat (And.intro hlt (And.intro hk hb)))
                clear hvc hLc hb3c hsc hbd hat HC2 hi1 hcb hcb2 hk hb hvb3 hL3 hvb0 hw hl3 pS g2 c3' c4' hqh hqg cg
                go_wp2_with fail
                go_roundw
                case rel => exact ⟨cb + 1, by have := HF.out.2.1; omega, by go_num, by rw [HF.out.1], hb3d⟩
                case measure => have := HF.out.2.1; simp [intOf]; try omega
              · have HC2 := Lib.hid (check_any _ (b.drop k) wc' hLc (hvc.dropB k hlt))
                rw [hqh] at HC2
                refine HC2.out.mono ?_
                rintro e wd ⟨rfl, hbd⟩
                have hb3d : Below w3.heap.size w3 wd := hb3c.trans (hbd.mono hsc)
                have hk2 : (k : Int) ≤ 200 := by omega
                have ha2 : (ats b k : Int) ≤ 201 := by have := at_small hb k; omega
                have e1 : ((q : Int) == (k : Int)) = false := by rw [beq_eq_false_iff_ne]; omega
                have e2 : ¬ (k : Int) < (q : Int) := by omega
                have e3 : ¬ (q : Int) < (k : Int) - 3 := by omega
                have e4 : ((qg : Int) == 0) = false := by rw [beq_eq_false_iff_ne]; have := Hqg0.out; omega
                have HF := Lib.hid (And.intro hat (And.intro hlt (And.intro hk hb)))
                clear hvc hLc hb3c hsc hbd hat HC2 hi1 hcb hcb2 hk hb hvb3 hL3 hvb0 hw hl3 pS g2 c3' c4' hqh hqg cg
                go_wp2_with fail
                go_roundw
                case rel => exact ⟨k + 1, by have := HF.out.2.1; omega, by go_num, by rw [HF.out.1], hb3d⟩
                case measure => have := HF.out.2.1; simp [intOf]; try omega
        · have hi1 : ¬ (k : Int) ≤ (b.length : Int) := by omega
          have hke : k = b.length + 1 := by omega
          have hat : ((ats b k : Nat) : Int) = ((staV b).length : Int) := by rw [hke, ats_end, sta_ok b HEb.out]; simp
          rw [hat]
          have HR := Lib.hid (run_ok b HEb.out)
          have hS2 : ((staV b).length : Int) ≤ 201 := by
            rw [← hat]; have := at_small hb k; omega
          have HC := Lib.hid (count_any _ b wr hLr hvr)
          rw [HEb.out, HR.out] at HC
          have HB := Lib.hid (And.intro hbl hLr)
          clear hat hke hb hk hvr hLr hbl hsz hvb0 hvb3 hcb hcb2 hl3 hw hL3
          go_wp2_with fail
          refine HC.out.mono ?_
          rintro e wx ⟨rfl, hbx⟩
          have HX := Lib.hid (And.intro hbx (HB.out.2.next hbx))
          clear hbx
          go_wp2_with fail
          refine (awake_any wx HX.out.2).mono ?_
          rintro e wy ⟨rfl, hby⟩
          have HY := Lib.hid hby
          clear hby
          go_wp2_with fail
          go_ret
          have h1 := HB.out.1
          have h2 := h1.trans (HX.out.1.mono h1.size)
          have h3 := h2.trans (HY.out.mono h2.size)
          exact ⟨rfl, H3.out.trans (h3.mono H3.out.size)⟩
    · have hne : ((eb : Int) != 0) = true := by rw [bne_iff_ne]; omega
      clear hvb0 hvb3 hl hcb hcb2
      go_wp2_with fail
      refine (awake_any w3 hL3).mono ?_
      rintro e w7 ⟨rfl, hb7⟩
      have H7 := Lib.hid (H3.out.trans (hb7.mono H3.out.size))
      clear hb7
      go_wp2_with fail
      go_ret
      exact ⟨rfl, H7.out⟩

set_option maxRecDepth 100000 in
set_option maxHeartbeats 4000000 in
theorem lawOrder_any (r s : Int) (vb : Value) (b : List UInt8) (w : World) (hw : Lay w) (hvb : RdB w.heap.size w vb b) :
    Calls Tryd.prog 7 #[.int .i64 r, .int .i64 s, vb] w fun e w' => e = .returned (.bool true) ∧ Below w.heap.size w w' := by
  by_cases h : b.length ≤ 200
  · exact order_main r s vb b w hw hvb h
  · obtain ⟨ab, cb, rfl, hcb, hcb2, hcellb⟩ := hvb
    clear hcellb
    have HW := Lib.hid (awake_any w hw)
    have d1 : decide ((200 : Int) < (b.length : Int)) = true := decide_eq_true (by omega)
    clear h
    go_enter Tryd.func7, Tryd.ntmps7
    go_wp2_with (go_at_call 11; refine HW.out.mono ?_; rintro e w7 ⟨rfl, hb7⟩)
    go_ret
    exact ⟨rfl, hb7⟩
end Go.Proofs.YtfceggpegjjhiaaDoor
