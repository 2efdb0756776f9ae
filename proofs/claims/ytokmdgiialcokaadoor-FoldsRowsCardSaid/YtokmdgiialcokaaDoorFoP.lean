/- The law Rows. -/
import Derived.Test.YtokmdgiialcokaaDoorFoNa
import Derived.Test.YtokmdgiialcokaaDoorFoM
namespace Go.Proofs.YtokmdgiialcokaaDoor
open Go.RowKit

/-- A row of a matrix, as a vector. -/
theorem row_isG {A : Ar} (h : isG A) {i : Nat} (hi : i < rwN A) : isG (vecA 1 (rwI A i)) := by
  obtain ⟨_, _, _, _, r5⟩ := rw_good h.good
  have hl := rwI_len h.good hi
  exact ⟨by show (rwI A i).length ≤ 405; omega, ck_vec (.inl rfl) (by omega) (fun e => by cases e), rfl, .inl rfl⟩
theorem feL_take {l : List (Int × Int)} {j : Nat} (h : j < l.length) : feL (l.take (j + 1)) = if feL (l.take j) = 0 then l[j].2 else feL (l.take j) := by
  rw [List.take_succ_eq_append_getElem h]
  by_cases e : feL (l.take j) = 0
  · rw [if_pos e, feL_app0 _ e]
    show (if l[j].2 = 0 then (0 : Int) else l[j].2) = _
    split
    · next x => exact x.symm
    · rfl
  · rw [if_neg e, feL_app1 _ e]
theorem cnt_at {A : Ar} (h : isG A) {i : Nat} (hi : i < rwN A) : (cntV A).z.getD i 0 = (rwM A : Int) := by
  have e : cntE A = 0 := h.fa true rfl
  unfold cntV
  rw [orNo_yes e, ofR_z]
  simp [List.getD_eq_getElem?_getD, hi]
theorem en_at {A : Ar} (h : isG A) (p : Int) (h0 : enE A = 0) {i : Nat} (hi : i < rwN A) : (enV p A).z.getD i 0 = en1 p (rwI A i) := by
  have h1 : i < (rwL A).length := by rw [rwL_len h.c]; exact hi
  unfold enV
  rw [orNo_yes h0, ofR_z, List.getD_eq_getElem?_getD, List.getElem?_map, List.getElem?_eq_getElem h1, rwL_get h.c]
  rfl
theorem KVar.same {w : World} {l : List Bk} {W W' : World} (h : KVar w l W) (hb : Below W.heap.size W W') : KVar w l W' := h.next hb

set_option maxRecDepth 100000 in
set_option maxHeartbeats 64000000 in
theorem lawRows_any (A : Ar) (v : Value) (w : World) (hw : Ru.Lay w) (hv : RdI w.heap.size w v A.z) (hn : Ru.NilC v) (h64 : in64 A.z) (haw : ∀ W, Ru.Lay W → Calls Tryd.prog 25 #[] W fun e w' => e = .returned (.bool true) ∧ Below W.heap.size W w') :
    Calls Tryd.prog 10 #[A5 A.k A.r A.a A.b v] w fun e w' => e = .returned (.bool true) ∧ Below w.heap.size w w' := by
  have HG := Lib.hid (fun W h => good_any A v W h)
  have HAw := Lib.hid haw
  clear haw
  have HK : Hid (KVar w [⟨w.heap.size, A, v⟩] (w.alloc (.cells #[.int .i64 A.k, .int .i64 A.r, .int .i64 A.a, .int .i64 A.b, v] 25))) := (KVar.start w hw).arg A hv hn
  have HI := Lib.hid h64
  have HN0 := Lib.hid hn
  obtain ⟨p, cap, rfl, hcap, hcap2, _⟩ := hv
  clear hw hn h64
  have x0 := (HK.out.a _ (.head _)).c0
  have x1 := (HK.out.a _ (.head _)).c1
  have x2 := (HK.out.a _ (.head _)).c2
  have x3 := (HK.out.a _ (.head _)).c3
  have x4 := (HK.out.a _ (.head _)).c4
  by_cases hg0 : gdB A = false
  · rw [hg0] at HG
    clear hg0
    go_enter Tryd.func10, Tryd.ntmps10
    go_wp2_with (first
      | (go_at_call 36; (with_reducible refine (HG.out _ (by with_unfolding_all exact HK.out.r _ (.head _))).mono ?_); rintro e wz ⟨rfl, hb⟩; have HK2 := Lib.hid (HK.out.next hb); clear HK x0 x1 x2 x3 x4; have HK := HK2; clear HK2; clear hb; have x0 := (HK.out.a _ (.head _)).c0; have x1 := (HK.out.a _ (.head _)).c1; have x2 := (HK.out.a _ (.head _)).c2; have x3 := (HK.out.a _ (.head _)).c3; have x4 := (HK.out.a _ (.head _)).c4)
      | (go_at_call 25; (with_reducible refine (HAw.out _ (by with_unfolding_all exact HK.out.lay)).mono ?_); rintro e wz ⟨rfl, hb⟩; have HK2 := Lib.hid (HK.out.next hb); clear HK x0 x1 x2 x3 x4; have HK := HK2; clear HK2; clear hb; have x0 := (HK.out.a _ (.head _)).c0; have x1 := (HK.out.a _ (.head _)).c1; have x2 := (HK.out.a _ (.head _)).c2; have x3 := (HK.out.a _ (.head _)).c3; have x4 := (HK.out.a _ (.head _)).c4) | fail)
    go_ret
    exact ⟨rfl, HK.out.bel⟩
  have hg : gdB A = true := by simpa using hg0
  rw [hg] at HG
  have hA := gdB_yes hg
  clear hg hg0
  by_cases hr : A.r ≠ 2
  · have k0 : (A.r != 2) = true := by simpa using hr
    clear hA hr
    go_enter Tryd.func10, Tryd.ntmps10
    go_wp2_with (first
      | (go_at_call 36; (with_reducible refine (HG.out _ (by with_unfolding_all exact HK.out.r _ (.head _))).mono ?_); rintro e wz ⟨rfl, hb⟩; have HK2 := Lib.hid (HK.out.next hb); clear HK x0 x1 x2 x3 x4; have HK := HK2; clear HK2; clear hb; have x0 := (HK.out.a _ (.head _)).c0; have x1 := (HK.out.a _ (.head _)).c1; have x2 := (HK.out.a _ (.head _)).c2; have x3 := (HK.out.a _ (.head _)).c3; have x4 := (HK.out.a _ (.head _)).c4)
      | (go_at_call 25; (with_reducible refine (HAw.out _ (by with_unfolding_all exact HK.out.lay)).mono ?_); rintro e wz ⟨rfl, hb⟩; have HK2 := Lib.hid (HK.out.next hb); clear HK x0 x1 x2 x3 x4; have HK := HK2; clear HK2; clear hb; have x0 := (HK.out.a _ (.head _)).c0; have x1 := (HK.out.a _ (.head _)).c1; have x2 := (HK.out.a _ (.head _)).c2; have x3 := (HK.out.a _ (.head _)).c3; have x4 := (HK.out.a _ (.head _)).c4) | fail)
    go_ret
    exact ⟨rfl, HK.out.bel⟩
  have hr2 : A.r = 2 := by omega
  have hl := hA.l
  have HS := Lib.hid (fun v W h0 h1 h2 => fsum_any A v W h0 h1 h2 (by omega) HI.out)
  have HL := Lib.hid (fun v W h0 h1 h2 => fleast_any A v W h0 h1 h2 (by omega) HI.out)
  have HC := Lib.hid (fun v W h0 h1 h2 => fcount_any A v W h0 h1 h2 (by omega))
  have HWi := Lib.hid (fun v W h => width_any A v W hA h)
  have hcE : cntE A = 0 := hA.fa true rfl
  rw [hcE] at HC
  obtain ⟨_, _, r2, r3, r4⟩ := rw_good hA.good
  have hck := hA.c
  have eS := hA.sm
  have eL := hA.en
  have hcl : (cntV A).z.length = rwN A := by unfold cntV; rw [orNo_yes hcE, ofR_z, List.length_replicate]
  -- what each row gives
  have HGI : Hid (∀ j, j < rwN A → isG (vecA 1 (rwI A j))) := fun j hj => row_isG hA hj
  have HIl : Hid (∀ j, j < rwN A → (rwI A j).length = rwM A) := fun j hj => rwI_len hA.good hj
  have HI6 : Hid (∀ j, in64 (rwI A j)) := fun j => HI.out.row j
  have HCs : Hid (∀ j (hj : j < rwN A), ∃ h : j < ((rwL A).map sm1).length, ((rwL A).map sm1)[j] = sm1 (rwI A j)) := fun j hj => by
    have h1 : j < ((rwL A).map sm1).length := by rw [sm_len hck]; exact hj
    exact ⟨h1, by rw [List.getElem_map, rwL_get hck]⟩
  have HSv : Hid (smE A = 0 → ((smV A).z.length = rwN A ∧ ∀ i, i < rwN A → (smV A).z.getD i 0 = (rwI A i).sum ∧ okS 0 (rwI A i) = true)) := fun h0 => ⟨by unfold smV; rw [orNo_yes h0, ofR_z, vsL_len, sm_len hck], fun i hi => ⟨smV_at hA h0 hi, okS_row hA h0 hi⟩⟩
  have HLv : Hid (enE A = 0 → ((enV 31 A).z.length = rwN A ∧ ∀ i, i < rwN A → (enV 31 A).z.getD i 0 = en1 31 (rwI A i))) := fun h0 => ⟨by unfold enV; rw [orNo_yes h0, ofR_z, List.length_map, rwL_len hck], fun i hi => en_at hA 31 h0 hi⟩
  have HCv : Hid (∀ i, i < rwN A → (cntV A).z.getD i 0 = (rwM A : Int)) := fun i hi => cnt_at hA hi
  have HCut : Hid (∀ (B : Nat) (W : World) i, i < rwN A → RdI B W (.slice p A.z.length cap) A.z → RdI B W (cutS p (i * rwM A) (i * rwM A + rwM A) cap) (rwI A i)) := fun B W i hi h => cut_rd hA.good h hi
  have HSL : Hid ((smV A).z.length ≤ 1000000) := Nat.le_trans (smV_len A) (by omega)
  have k0 : (A.r != 2) = false := by simpa using hr
  have HS12 : Hid (smE A ≠ 0 → smE A = 12) := fun h => hA.sm12 h
  generalize smV A = S at HS HSv HSL
  generalize enV 31 A = Lo at HL HLv
  generalize cntV A = Cn at HC hcl HCv
  generalize hES : smE A = ES at HS HSv HS12 eS
  generalize hEL : enE A = EL at HL HLv eL
  obtain ⟨cs, hcs⟩ : ∃ cs, (rwL A).map sm1 = cs := ⟨_, rfl⟩
  rw [hcs] at HCs eS
  obtain ⟨n, hn⟩ : ∃ n, rwN A = n := ⟨_, rfl⟩
  obtain ⟨m, hm⟩ : ∃ m, rwM A = m := ⟨_, rfl⟩
  have HLn : Hid (cs.length = n) := by rw [← hcs, ← hn]; exact sm_len hck
  rw [hn] at r2 r3 HWi hcl HGI HIl HCs HSv HLv HCv HCut eL
  rw [hm] at r2 r4 HWi HIl HCv HCut eL
  have HZ0 : Hid (m = 0 → ES = 0) := fun e => by
    rw [eS]
    refine feL_zero.2 fun c hc => ?_
    obtain ⟨j, hj, rfl⟩ := List.mem_iff_getElem.1 hc
    have hjn : j < n := by rw [← HLn.out]; exact hj
    obtain ⟨_, hcv⟩ := HCs.out j hjn
    rw [hcv, List.length_eq_zero_iff.1 (by rw [HIl.out j hjn, e] : (rwI A j).length = 0)]
    rfl
  have HR2 := Lib.hid r2
  have HES := Lib.hid eS
  have HEL := Lib.hid eL
  obtain ⟨S1, S2, S3, S4, sz⟩ := S
  obtain ⟨L1, L2, L3, L4, lz⟩ := Lo
  obtain ⟨C1, C2, C3, C4, cz⟩ := Cn
  simp only at hcl
  have kc : ((cz.length : Int) != (n : Int)) = false := by rw [hcl]; simp
  have HCl := Lib.hid hcl
  have HCap := Lib.hid (And.intro hcap hcap2)
  clear hcs hn hm hcl r2 hES hEL eS eL hck hcE hr hr2 hA hcap hcap2
  go_enter Tryd.func10, Tryd.ntmps10
  go_wp2_with (first
    | (go_at_call 36; (with_reducible refine (HG.out _ (by with_unfolding_all exact HK.out.r _ (.head _))).mono ?_); rintro e wz ⟨rfl, hb⟩; have HK2 := Lib.hid (HK.out.next hb); clear HK x0 x1 x2 x3 x4; have HK := HK2; clear HK2; clear hb; have x0 := (HK.out.a _ (.head _)).c0; have x1 := (HK.out.a _ (.head _)).c1; have x2 := (HK.out.a _ (.head _)).c2; have x3 := (HK.out.a _ (.head _)).c3; have x4 := (HK.out.a _ (.head _)).c4)
    | (go_at_call 26; (with_reducible refine (HS.out _ _ (by with_unfolding_all exact HK.out.lay) (by with_unfolding_all exact HK.out.r _ (.head _)) (by with_unfolding_all exact HK.out.n _ (.head _))).mono ?_); rintro e wa ⟨uwa, rfl, hu, hb⟩; obtain ⟨pwa, cwa, hpwa, _, _⟩ := hu.form; have hqwa : uwa = (.slice pwa sz.length cwa) := hpwa; subst hqwa; clear hpwa; have hltxs : w.heap.size < wa.heap.size := Nat.lt_of_lt_of_le (HK.out.lt _ (.head _)) hb.size; have HK2 := Lib.hid (HK.out.res hb ⟨S1, S2, S3, S4, sz⟩ hu); clear HK x0 x1 x2 x3 x4; have HK := HK2; clear HK2; clear hb hu; have x0 := (HK.out.a _ (.tail _ (.head _))).c0; have x1 := (HK.out.a _ (.tail _ (.head _))).c1; have x2 := (HK.out.a _ (.tail _ (.head _))).c2; have x3 := (HK.out.a _ (.tail _ (.head _))).c3; have x4 := (HK.out.a _ (.tail _ (.head _))).c4; have s0 := (HK.out.a _ (.head _)).c0; have s1 := (HK.out.a _ (.head _)).c1; have s2 := (HK.out.a _ (.head _)).c2; have s3 := (HK.out.a _ (.head _)).c3; have s4 := (HK.out.a _ (.head _)).c4)
    | (go_at_call 30; (with_reducible refine (HL.out _ _ (by with_unfolding_all exact HK.out.lay) (by with_unfolding_all exact HK.out.r _ (.tail _ (.head _))) (by with_unfolding_all exact HK.out.n _ (.tail _ (.head _)))).mono ?_); rintro e wb ⟨uwb, rfl, hu, hb⟩; obtain ⟨pwb, cwb, hpwb, _, _⟩ := hu.form; have hqwb : uwb = (.slice pwb lz.length cwb) := hpwb; subst hqwb; clear hpwb; have hltsl : wa.heap.size < wb.heap.size := Nat.lt_of_lt_of_le (HK.out.lt _ (.head _)) hb.size; have hltxl : w.heap.size < wb.heap.size := Nat.lt_of_lt_of_le (HK.out.lt _ (.tail _ (.head _))) hb.size; have HK2 := Lib.hid (HK.out.res hb ⟨L1, L2, L3, L4, lz⟩ hu); clear HK x0 x1 x2 x3 x4 s0 s1 s2 s3 s4; have HK := HK2; clear HK2; clear hb hu; have x0 := (HK.out.a _ (.tail _ (.tail _ (.head _)))).c0; have x1 := (HK.out.a _ (.tail _ (.tail _ (.head _)))).c1; have x2 := (HK.out.a _ (.tail _ (.tail _ (.head _)))).c2; have x3 := (HK.out.a _ (.tail _ (.tail _ (.head _)))).c3; have x4 := (HK.out.a _ (.tail _ (.tail _ (.head _)))).c4; have s0 := (HK.out.a _ (.tail _ (.head _))).c0; have s1 := (HK.out.a _ (.tail _ (.head _))).c1; have s2 := (HK.out.a _ (.tail _ (.head _))).c2; have s3 := (HK.out.a _ (.tail _ (.head _))).c3; have s4 := (HK.out.a _ (.tail _ (.head _))).c4; have l0 := (HK.out.a _ (.head _)).c0; have l1 := (HK.out.a _ (.head _)).c1; have l2 := (HK.out.a _ (.head _)).c2; have l3 := (HK.out.a _ (.head _)).c3; have l4 := (HK.out.a _ (.head _)).c4)
    | (go_at_call 34; (with_reducible refine (HC.out _ _ (by with_unfolding_all exact HK.out.lay) (by with_unfolding_all exact HK.out.r _ (.tail _ (.tail _ (.head _)))) (by with_unfolding_all exact HK.out.n _ (.tail _ (.tail _ (.head _))))).mono ?_); rintro e wcn ⟨uwcn, rfl, hu, hb⟩; obtain ⟨pwcn, cwcn, hpwcn, _, _⟩ := hu.form; have hqwcn : uwcn = (.slice pwcn cz.length cwcn) := hpwcn; subst hqwcn; clear hpwcn; have hltlc : wb.heap.size < wcn.heap.size := Nat.lt_of_lt_of_le (HK.out.lt _ (.head _)) hb.size; have hltsc : wa.heap.size < wcn.heap.size := Nat.lt_of_lt_of_le (HK.out.lt _ (.tail _ (.head _))) hb.size; have hltxc : w.heap.size < wcn.heap.size := Nat.lt_of_lt_of_le (HK.out.lt _ (.tail _ (.tail _ (.head _)))) hb.size; have HK2 := Lib.hid (HK.out.res hb ⟨C1, C2, C3, C4, cz⟩ hu); clear HK x0 x1 x2 x3 x4 s0 s1 s2 s3 s4 l0 l1 l2 l3 l4; have HK := HK2; clear HK2; clear hb hu; have x0 := (HK.out.a _ (.tail _ (.tail _ (.tail _ (.head _))))).c0; have x1 := (HK.out.a _ (.tail _ (.tail _ (.tail _ (.head _))))).c1; have x2 := (HK.out.a _ (.tail _ (.tail _ (.tail _ (.head _))))).c2; have x3 := (HK.out.a _ (.tail _ (.tail _ (.tail _ (.head _))))).c3; have x4 := (HK.out.a _ (.tail _ (.tail _ (.tail _ (.head _))))).c4; have s0 := (HK.out.a _ (.tail _ (.tail _ (.head _)))).c0; have s1 := (HK.out.a _ (.tail _ (.tail _ (.head _)))).c1; have s2 := (HK.out.a _ (.tail _ (.tail _ (.head _)))).c2; have s3 := (HK.out.a _ (.tail _ (.tail _ (.head _)))).c3; have s4 := (HK.out.a _ (.tail _ (.tail _ (.head _)))).c4; have l0 := (HK.out.a _ (.tail _ (.head _))).c0; have l1 := (HK.out.a _ (.tail _ (.head _))).c1; have l2 := (HK.out.a _ (.tail _ (.head _))).c2; have l3 := (HK.out.a _ (.tail _ (.head _))).c3; have l4 := (HK.out.a _ (.tail _ (.head _))).c4; have c0 := (HK.out.a _ (.head _)).c0; have c1 := (HK.out.a _ (.head _)).c1; have c2 := (HK.out.a _ (.head _)).c2; have c3 := (HK.out.a _ (.head _)).c3; have c4 := (HK.out.a _ (.head _)).c4)
    | (go_at_call 37; (with_reducible refine (HWi.out _ _ (by with_unfolding_all exact HK.out.r _ (.tail _ (.tail _ (.tail _ (.head _)))))).mono ?_); rintro e wz ⟨rfl, hb⟩; have HK2 := Lib.hid (HK.out.next hb); clear HK x0 x1 x2 x3 x4 s0 s1 s2 s3 s4 l0 l1 l2 l3 l4 c0 c1 c2 c3 c4; have HK := HK2; clear HK2; clear hb; have x0 := (HK.out.a _ (.tail _ (.tail _ (.tail _ (.head _))))).c0; have x1 := (HK.out.a _ (.tail _ (.tail _ (.tail _ (.head _))))).c1; have x2 := (HK.out.a _ (.tail _ (.tail _ (.tail _ (.head _))))).c2; have x3 := (HK.out.a _ (.tail _ (.tail _ (.tail _ (.head _))))).c3; have x4 := (HK.out.a _ (.tail _ (.tail _ (.tail _ (.head _))))).c4; have s0 := (HK.out.a _ (.tail _ (.tail _ (.head _)))).c0; have s1 := (HK.out.a _ (.tail _ (.tail _ (.head _)))).c1; have s2 := (HK.out.a _ (.tail _ (.tail _ (.head _)))).c2; have s3 := (HK.out.a _ (.tail _ (.tail _ (.head _)))).c3; have s4 := (HK.out.a _ (.tail _ (.tail _ (.head _)))).c4; have l0 := (HK.out.a _ (.tail _ (.head _))).c0; have l1 := (HK.out.a _ (.tail _ (.head _))).c1; have l2 := (HK.out.a _ (.tail _ (.head _))).c2; have l3 := (HK.out.a _ (.tail _ (.head _))).c3; have l4 := (HK.out.a _ (.tail _ (.head _))).c4; have c0 := (HK.out.a _ (.head _)).c0; have c1 := (HK.out.a _ (.head _)).c1; have c2 := (HK.out.a _ (.head _)).c2; have c3 := (HK.out.a _ (.head _)).c3; have c4 := (HK.out.a _ (.head _)).c4)
    | fail)
  clear HG HS HL HC HWi kc k0 x0 x1 x2 x3 x4 s0 s1 s2 s3 s4 l0 l1 l2 l3 l4 c0 c1 c2 c3 c4
  go_loopg [11, 12, 13] n (fun gk f1 f2 i wr => ∃ (j : Nat) (E1 E2 : Int), j + gk = n ∧ f1 = .int .i64 E1 ∧ f2 = .int .i64 E2 ∧ i = .int .i64 j ∧ E1 = feL (cs.take j) ∧ E2 = (if 0 < j ∧ m = 0 then 13 else 0) ∧ KVar w [⟨wcn.heap.size, ⟨C1, C2, C3, C4, cz⟩, (.slice pwcn cz.length cwcn)⟩, ⟨wb.heap.size, ⟨L1, L2, L3, L4, lz⟩, (.slice pwb lz.length cwb)⟩, ⟨wa.heap.size, ⟨S1, S2, S3, S4, sz⟩, (.slice pwa sz.length cwa)⟩, ⟨w.heap.size, A, (.slice p A.z.length cap)⟩] wr)
  case atStart => exact ⟨0, _, _, by omega, rfl, rfl, rfl, rfl, by rw [if_neg (by omega)], HK.out⟩
  case round =>
    obtain ⟨j, E1, E2, hjg, rfl, rfl, rfl, hE1, hE2, hk⟩ := hrel
    have HE1 := Lib.hid hE1
    have HE2 := Lib.hid hE2
    have HK2 := Lib.hid hk
    clear hk HK hE1 hE2
    have HK := HK2
    clear HK2
    have x0 := (HK.out.a _ (.tail _ (.tail _ (.tail _ (.head _))))).c0
    have x1 := (HK.out.a _ (.tail _ (.tail _ (.tail _ (.head _))))).c1
    have x2 := (HK.out.a _ (.tail _ (.tail _ (.tail _ (.head _))))).c2
    have x3 := (HK.out.a _ (.tail _ (.tail _ (.tail _ (.head _))))).c3
    have x4 := (HK.out.a _ (.tail _ (.tail _ (.tail _ (.head _))))).c4
    have s0 := (HK.out.a _ (.tail _ (.tail _ (.head _)))).c0
    have s1 := (HK.out.a _ (.tail _ (.tail _ (.head _)))).c1
    have s2 := (HK.out.a _ (.tail _ (.tail _ (.head _)))).c2
    have s3 := (HK.out.a _ (.tail _ (.tail _ (.head _)))).c3
    have s4 := (HK.out.a _ (.tail _ (.tail _ (.head _)))).c4
    have l0 := (HK.out.a _ (.tail _ (.head _))).c0
    have l1 := (HK.out.a _ (.tail _ (.head _))).c1
    have l2 := (HK.out.a _ (.tail _ (.head _))).c2
    have l3 := (HK.out.a _ (.tail _ (.head _))).c3
    have l4 := (HK.out.a _ (.tail _ (.head _))).c4
    have c0 := (HK.out.a _ (.head _)).c0
    have c1 := (HK.out.a _ (.head _)).c1
    have c2 := (HK.out.a _ (.head _)).c2
    have c3 := (HK.out.a _ (.head _)).c3
    have c4 := (HK.out.a _ (.head _)).c4
    cases gk with
    | zero =>
      have hjz : ¬ ((j : Int) < (n : Int)) := by omega
      have hE1 : ES = E1 := by rw [HES.out, HE1.out, List.take_of_length_le (by rw [HLn.out]; omega)]
      have hE2 : EL = E2 := by rw [HEL.out, HE2.out, show j = n by omega]
      subst hE1 hE2
      clear HE1 HE2 HSv HLv HCv HCut HGI HIl HI6 HCs HES HEL HS12 HSL
      go_wp2_with (first | (go_at_call 25; (with_reducible refine (HAw.out _ (by with_unfolding_all exact HK.out.lay)).mono ?_); rintro e wz ⟨rfl, hb⟩; have HK2 := Lib.hid (HK.out.next hb); clear HK x0 x1 x2 x3 x4 s0 s1 s2 s3 s4 l0 l1 l2 l3 l4 c0 c1 c2 c3 c4; have HK := HK2; clear HK2; clear hb; have x0 := (HK.out.a _ (.tail _ (.tail _ (.tail _ (.head _))))).c0; have x1 := (HK.out.a _ (.tail _ (.tail _ (.tail _ (.head _))))).c1; have x2 := (HK.out.a _ (.tail _ (.tail _ (.tail _ (.head _))))).c2; have x3 := (HK.out.a _ (.tail _ (.tail _ (.tail _ (.head _))))).c3; have x4 := (HK.out.a _ (.tail _ (.tail _ (.tail _ (.head _))))).c4; have s0 := (HK.out.a _ (.tail _ (.tail _ (.head _)))).c0; have s1 := (HK.out.a _ (.tail _ (.tail _ (.head _)))).c1; have s2 := (HK.out.a _ (.tail _ (.tail _ (.head _)))).c2; have s3 := (HK.out.a _ (.tail _ (.tail _ (.head _)))).c3; have s4 := (HK.out.a _ (.tail _ (.tail _ (.head _)))).c4; have l0 := (HK.out.a _ (.tail _ (.head _))).c0; have l1 := (HK.out.a _ (.tail _ (.head _))).c1; have l2 := (HK.out.a _ (.tail _ (.head _))).c2; have l3 := (HK.out.a _ (.tail _ (.head _))).c3; have l4 := (HK.out.a _ (.tail _ (.head _))).c4; have c0 := (HK.out.a _ (.head _)).c0; have c1 := (HK.out.a _ (.head _)).c1; have c2 := (HK.out.a _ (.head _)).c2; have c3 := (HK.out.a _ (.head _)).c3; have c4 := (HK.out.a _ (.head _)).c4) | fail)
      go_ret
      exact ⟨rfl, HK.out.bel⟩
    | succ g2 =>
      have hjz : (j : Int) < (n : Int) := by omega
      have hj : j < n := by omega
      have hw0 : IntKind.i64.wrap ((j : Int) + 1) = (j : Int) + 1 := by rw [IntKind.wrap_i64]; omega
      have hGr := HGI.out j hj
      have hIl := HIl.out j hj
      have h6 := HI6.out j
      obtain ⟨hcj, hcv⟩ := HCs.out j hj
      have hft := feL_take hcj
      rw [hcv, ← HE1.out] at hft
      have hSv := fun h => (HSv.out h).2 j hj
      have hLv := fun h => (HLv.out h).2 j hj
      have hCv := HCv.out j hj
      have HRd := Lib.hid (fun B W h => HCut.out B W j hj h)
      have HSl := Lib.hid (fun h => (HSv.out h).1)
      have HLl := Lib.hid (fun h => (HLv.out h).1)
      generalize rwI A j = row at hGr hIl h6 hcv hft hSv hLv HRd
      have hGr2 := Lib.hid hGr
      obtain ⟨eR, vR⟩ := sm_vec hGr rfl
      obtain ⟨eN, vN⟩ := en_vec hGr rfl 31
      obtain ⟨eC, vC⟩ := cnt_vec hGr rfl
      have hle := Nat.mul_le_mul_right m (show j + 1 ≤ n by omega)
      rw [Nat.add_mul, Nat.one_mul] at hle
      have hla : j * m + m ≤ A.z.length := by rw [← HR2.out]; exact hle
      have hlr : row.length ≤ 400 := by omega
      have HQ1 : Hid (∀ (v : Value) W, Ru.Lay W → RdI W.heap.size W v row → Ru.NilC v → Calls Tryd.prog 26 #[A5 1 1 (m : Int) 0 v] W (RetE (smV (vecA 1 row)) (smE (vecA 1 row)) W)) := fun v W h0 h1 h2 => by rw [← hIl]; exact fsum_any (vecA 1 row) v W h0 h1 h2 (by show row.length ≤ _; omega) h6
      have HQ2 : Hid (∀ (v : Value) W, Ru.Lay W → RdI W.heap.size W v row → Ru.NilC v → Calls Tryd.prog 30 #[A5 1 1 (m : Int) 0 v] W (RetE (enV 31 (vecA 1 row)) (enE (vecA 1 row)) W)) := fun v W h0 h1 h2 => by rw [← hIl]; exact fleast_any (vecA 1 row) v W h0 h1 h2 (by show row.length ≤ _; omega) h6
      have HQ3 : Hid (∀ (v : Value) W, Ru.Lay W → RdI W.heap.size W v row → Ru.NilC v → Calls Tryd.prog 34 #[A5 1 1 (m : Int) 0 v] W (RetE (cntV (vecA 1 row)) (cntE (vecA 1 row)) W)) := fun v W h0 h1 h2 => by rw [← hIl]; exact fcount_any (vecA 1 row) v W h0 h1 h2 (by show row.length ≤ _; omega)
      rw [eC, vC] at HQ3
      have hzl : (vecA 1 row).z = row := rfl
      rw [hzl, hIl] at HQ3 eN
      rw [hzl] at eR vR vN
      rw [eR] at HQ1 vR
      rw [eN] at HQ2 vN
      have hsm := sm1_err row
      have hcr : ∀ W, (Instr.slice 23 (.slice p A.z.length cap) (some (.int .i64 ((j * m : Nat) : Int))) (some (.int .i64 ((j * m + m : Nat) : Int))) none).run Tryd.prog W = .ok (cutS p (j * m) (j * m + m) cap) W := fun W => cut_run p A.z.length cap (j * m) (j * m + m) (by omega) (by have := HCap.out.1; omega) W
      have HNc := Lib.hid (cut_nil (lo := j * m) (hi := j * m + m) HN0.out)
      have hw1 : IntKind.i64.wrap ((j : Int) * (m : Int)) = ((j * m : Nat) : Int) := by rw [← Int.natCast_mul, IntKind.wrap_i64]; omega
      have hw2 : IntKind.i64.wrap (((j * m : Nat) : Int) + (m : Int)) = ((j * m + m : Nat) : Int) := by rw [IntKind.wrap_i64]; omega
      have hcc : cutS p (j * m) (j * m + m) cap = .slice (if cap = j * m then p else p.map (·.add (j * m))) (j * m + m - j * m) (cap - j * m) := rfl
      rw [hcc] at HRd HNc hcr
      rw [show j * m + m - j * m = m by omega] at HRd HNc hcr
      generalize (if cap = j * m then p else p.map (·.add (j * m))) = qa at HRd HNc hcr
      generalize cap - j * m = qc at HRd HNc hcr
      generalize j * m + m = d2 at hw2 hcr
      generalize j * m = d1 at hw1 hw2 hcr
      have HVc := Lib.hid (fun W h => vector7_any 1 row (.slice qa m qc) W h HNc.out (by omega))
      rw [hIl] at HVc
      have HIl := Lib.hid hIl
      clear hle hla hcc hzl HCut HGI HI6 HCs HSv HLv HCv hGr hIl eR eN eC vC HNc HR2 h6 hcv
      have hjc : j < cz.length := by rw [HCl.out]; exact hj
      by_cases hf : EL = 0
      · skip
        have hm0 : ¬ m = 0 := fun e => by rw [HEL.out, if_pos ⟨by omega, e⟩] at hf; cases hf
        have hN0 : (if m = 0 then (13 : Int) else 0) = 0 := if_neg hm0
        have hy := (vN hN0).2
        rw [hy, hN0] at HQ2
        have hLv1 := hLv hf
        have hjl : j < lz.length := by rw [HLl.out hf]; exact hj
        have kl1 : decide ((lz.length : Int) ≤ (j : Int)) = false := decide_eq_false (by omega)
        have kl2 : decide (lz.length ≤ j) = false := decide_eq_false (by omega)
        have hE20 : E2 = 0 := by rw [HE2.out, if_neg (by omega)]
        have HGn : Hid (E2 = (if 0 < j + 1 ∧ m = 0 then 13 else 0)) := by unfold Hid; rw [hE20, if_neg (by omega)]
        subst hf hE20
        generalize en1 31 row = yv at HQ2 hLv1
        clear vN hy hN0 hm0 hLv HEL
        by_cases hs : ES = 0
        · skip
          have hjs : j < sz.length := by rw [HSl.out hs]; exact hj
          have ks1 : decide ((sz.length : Int) ≤ (j : Int)) = false := decide_eq_false (by omega)
          have ks2 : decide (sz.length ≤ j) = false := decide_eq_false (by omega)
          obtain ⟨hSv1, hok⟩ := hSv hs
          have h20 : (sm1 row).2 = 0 := by rw [sm1_yes hok]
          have hq := (vR h20).2
          rw [hq, h20] at HQ1
          have HFn : Hid (E1 = feL (cs.take (j + 1))) := by unfold Hid; rw [hft, h20]; by_cases e : E1 = 0; (· rw [if_pos e]; exact e); rw [if_neg e]
          subst hs
          generalize row.sum = xv at HQ1 hSv1
          clear vR hq h20 hok hft hSv hsm
          as_aux_lemma =>
            go_wp2_with (first
              | (go_at_call 22; (with_reducible refine (HVc.out _ (HRd.out _ _ (by with_unfolding_all exact HK.out.r _ (.tail _ (.tail _ (.tail _ (.head _))))))).mono ?_); rintro e wr1 ⟨uwr1, rfl, hu, hb⟩; obtain ⟨pwr1, cwr1, hpwr1, _, _⟩ := hu.form; have hqwr1 : uwr1 = (.slice pwr1 m cwr1) := (by rw [hpwr1, HIl.out]); subst hqwr1; clear hpwr1; have hltcrow : wcn.heap.size < wr1.heap.size := Nat.lt_of_lt_of_le (HK.out.lt _ (.head _)) hb.size; have hltlrow : wb.heap.size < wr1.heap.size := Nat.lt_of_lt_of_le (HK.out.lt _ (.tail _ (.head _))) hb.size; have hltsrow : wa.heap.size < wr1.heap.size := Nat.lt_of_lt_of_le (HK.out.lt _ (.tail _ (.tail _ (.head _)))) hb.size; have hltxrow : w.heap.size < wr1.heap.size := Nat.lt_of_lt_of_le (HK.out.lt _ (.tail _ (.tail _ (.tail _ (.head _))))) hb.size; have HK2 := Lib.hid (HK.out.res hb ⟨1, 1, (m : Int), 0, row⟩ hu); clear HK x0 x1 x2 x3 x4 s0 s1 s2 s3 s4 l0 l1 l2 l3 l4 c0 c1 c2 c3 c4; have HK := HK2; clear HK2; clear hb hu; have x0 := (HK.out.a _ (.tail _ (.tail _ (.tail _ (.tail _ (.head _)))))).c0; have x1 := (HK.out.a _ (.tail _ (.tail _ (.tail _ (.tail _ (.head _)))))).c1; have x2 := (HK.out.a _ (.tail _ (.tail _ (.tail _ (.tail _ (.head _)))))).c2; have x3 := (HK.out.a _ (.tail _ (.tail _ (.tail _ (.tail _ (.head _)))))).c3; have x4 := (HK.out.a _ (.tail _ (.tail _ (.tail _ (.tail _ (.head _)))))).c4; have s0 := (HK.out.a _ (.tail _ (.tail _ (.tail _ (.head _))))).c0; have s1 := (HK.out.a _ (.tail _ (.tail _ (.tail _ (.head _))))).c1; have s2 := (HK.out.a _ (.tail _ (.tail _ (.tail _ (.head _))))).c2; have s3 := (HK.out.a _ (.tail _ (.tail _ (.tail _ (.head _))))).c3; have s4 := (HK.out.a _ (.tail _ (.tail _ (.tail _ (.head _))))).c4; have l0 := (HK.out.a _ (.tail _ (.tail _ (.head _)))).c0; have l1 := (HK.out.a _ (.tail _ (.tail _ (.head _)))).c1; have l2 := (HK.out.a _ (.tail _ (.tail _ (.head _)))).c2; have l3 := (HK.out.a _ (.tail _ (.tail _ (.head _)))).c3; have l4 := (HK.out.a _ (.tail _ (.tail _ (.head _)))).c4; have c0 := (HK.out.a _ (.tail _ (.head _))).c0; have c1 := (HK.out.a _ (.tail _ (.head _))).c1; have c2 := (HK.out.a _ (.tail _ (.head _))).c2; have c3 := (HK.out.a _ (.tail _ (.head _))).c3; have c4 := (HK.out.a _ (.tail _ (.head _))).c4; have row0 := (HK.out.a _ (.head _)).c0; have row1 := (HK.out.a _ (.head _)).c1; have row2 := (HK.out.a _ (.head _)).c2; have row3 := (HK.out.a _ (.head _)).c3; have row4 := (HK.out.a _ (.head _)).c4)
              | (go_at_call 26; (with_reducible refine (HQ1.out _ _ (by with_unfolding_all exact HK.out.lay) (by with_unfolding_all exact HK.out.r _ (.head _)) (by with_unfolding_all exact HK.out.n _ (.head _))).mono ?_); rintro e wr2 ⟨uwr2, rfl, hu, hb⟩; obtain ⟨pwr2, cwr2, hpwr2, _, _⟩ := hu.form; have hqwr2 : uwr2 = (.slice pwr2 1 cwr2) := hpwr2; subst hqwr2; clear hpwr2; have hltrowqx : wr1.heap.size < wr2.heap.size := Nat.lt_of_lt_of_le (HK.out.lt _ (.head _)) hb.size; have hltcqx : wcn.heap.size < wr2.heap.size := Nat.lt_of_lt_of_le (HK.out.lt _ (.tail _ (.head _))) hb.size; have hltlqx : wb.heap.size < wr2.heap.size := Nat.lt_of_lt_of_le (HK.out.lt _ (.tail _ (.tail _ (.head _)))) hb.size; have hltsqx : wa.heap.size < wr2.heap.size := Nat.lt_of_lt_of_le (HK.out.lt _ (.tail _ (.tail _ (.tail _ (.head _))))) hb.size; have hltxqx : w.heap.size < wr2.heap.size := Nat.lt_of_lt_of_le (HK.out.lt _ (.tail _ (.tail _ (.tail _ (.tail _ (.head _)))))) hb.size; have HK2 := Lib.hid (HK.out.res hb ⟨1, 0, 0, 0, [xv]⟩ hu); clear HK x0 x1 x2 x3 x4 s0 s1 s2 s3 s4 l0 l1 l2 l3 l4 c0 c1 c2 c3 c4 row0 row1 row2 row3 row4; have HK := HK2; clear HK2; clear hb hu; have x0 := (HK.out.a _ (.tail _ (.tail _ (.tail _ (.tail _ (.tail _ (.head _))))))).c0; have x1 := (HK.out.a _ (.tail _ (.tail _ (.tail _ (.tail _ (.tail _ (.head _))))))).c1; have x2 := (HK.out.a _ (.tail _ (.tail _ (.tail _ (.tail _ (.tail _ (.head _))))))).c2; have x3 := (HK.out.a _ (.tail _ (.tail _ (.tail _ (.tail _ (.tail _ (.head _))))))).c3; have x4 := (HK.out.a _ (.tail _ (.tail _ (.tail _ (.tail _ (.tail _ (.head _))))))).c4; have s0 := (HK.out.a _ (.tail _ (.tail _ (.tail _ (.tail _ (.head _)))))).c0; have s1 := (HK.out.a _ (.tail _ (.tail _ (.tail _ (.tail _ (.head _)))))).c1; have s2 := (HK.out.a _ (.tail _ (.tail _ (.tail _ (.tail _ (.head _)))))).c2; have s3 := (HK.out.a _ (.tail _ (.tail _ (.tail _ (.tail _ (.head _)))))).c3; have s4 := (HK.out.a _ (.tail _ (.tail _ (.tail _ (.tail _ (.head _)))))).c4; have l0 := (HK.out.a _ (.tail _ (.tail _ (.tail _ (.head _))))).c0; have l1 := (HK.out.a _ (.tail _ (.tail _ (.tail _ (.head _))))).c1; have l2 := (HK.out.a _ (.tail _ (.tail _ (.tail _ (.head _))))).c2; have l3 := (HK.out.a _ (.tail _ (.tail _ (.tail _ (.head _))))).c3; have l4 := (HK.out.a _ (.tail _ (.tail _ (.tail _ (.head _))))).c4; have c0 := (HK.out.a _ (.tail _ (.tail _ (.head _)))).c0; have c1 := (HK.out.a _ (.tail _ (.tail _ (.head _)))).c1; have c2 := (HK.out.a _ (.tail _ (.tail _ (.head _)))).c2; have c3 := (HK.out.a _ (.tail _ (.tail _ (.head _)))).c3; have c4 := (HK.out.a _ (.tail _ (.tail _ (.head _)))).c4; have row0 := (HK.out.a _ (.tail _ (.head _))).c0; have row1 := (HK.out.a _ (.tail _ (.head _))).c1; have row2 := (HK.out.a _ (.tail _ (.head _))).c2; have row3 := (HK.out.a _ (.tail _ (.head _))).c3; have row4 := (HK.out.a _ (.tail _ (.head _))).c4; have qx0 := (HK.out.a _ (.head _)).c0; have qx1 := (HK.out.a _ (.head _)).c1; have qx2 := (HK.out.a _ (.head _)).c2; have qx3 := (HK.out.a _ (.head _)).c3; have qx4 := (HK.out.a _ (.head _)).c4)
              | (go_at_call 30; (with_reducible refine (HQ2.out _ _ (by with_unfolding_all exact HK.out.lay) (by with_unfolding_all exact HK.out.r _ (.tail _ (.head _))) (by with_unfolding_all exact HK.out.n _ (.tail _ (.head _)))).mono ?_); rintro e wr3 ⟨uwr3, rfl, hu, hb⟩; obtain ⟨pwr3, cwr3, hpwr3, _, _⟩ := hu.form; have hqwr3 : uwr3 = (.slice pwr3 1 cwr3) := hpwr3; subst hqwr3; clear hpwr3; have hltqxqy : wr2.heap.size < wr3.heap.size := Nat.lt_of_lt_of_le (HK.out.lt _ (.head _)) hb.size; have hltrowqy : wr1.heap.size < wr3.heap.size := Nat.lt_of_lt_of_le (HK.out.lt _ (.tail _ (.head _))) hb.size; have hltcqy : wcn.heap.size < wr3.heap.size := Nat.lt_of_lt_of_le (HK.out.lt _ (.tail _ (.tail _ (.head _)))) hb.size; have hltlqy : wb.heap.size < wr3.heap.size := Nat.lt_of_lt_of_le (HK.out.lt _ (.tail _ (.tail _ (.tail _ (.head _))))) hb.size; have hltsqy : wa.heap.size < wr3.heap.size := Nat.lt_of_lt_of_le (HK.out.lt _ (.tail _ (.tail _ (.tail _ (.tail _ (.head _)))))) hb.size; have hltxqy : w.heap.size < wr3.heap.size := Nat.lt_of_lt_of_le (HK.out.lt _ (.tail _ (.tail _ (.tail _ (.tail _ (.tail _ (.head _))))))) hb.size; have HK2 := Lib.hid (HK.out.res hb ⟨1, 0, 0, 0, [yv]⟩ hu); clear HK x0 x1 x2 x3 x4 s0 s1 s2 s3 s4 l0 l1 l2 l3 l4 c0 c1 c2 c3 c4 row0 row1 row2 row3 row4 qx0 qx1 qx2 qx3 qx4; have HK := HK2; clear HK2; clear hb hu; have x0 := (HK.out.a _ (.tail _ (.tail _ (.tail _ (.tail _ (.tail _ (.tail _ (.head _)))))))).c0; have x1 := (HK.out.a _ (.tail _ (.tail _ (.tail _ (.tail _ (.tail _ (.tail _ (.head _)))))))).c1; have x2 := (HK.out.a _ (.tail _ (.tail _ (.tail _ (.tail _ (.tail _ (.tail _ (.head _)))))))).c2; have x3 := (HK.out.a _ (.tail _ (.tail _ (.tail _ (.tail _ (.tail _ (.tail _ (.head _)))))))).c3; have x4 := (HK.out.a _ (.tail _ (.tail _ (.tail _ (.tail _ (.tail _ (.tail _ (.head _)))))))).c4; have s0 := (HK.out.a _ (.tail _ (.tail _ (.tail _ (.tail _ (.tail _ (.head _))))))).c0; have s1 := (HK.out.a _ (.tail _ (.tail _ (.tail _ (.tail _ (.tail _ (.head _))))))).c1; have s2 := (HK.out.a _ (.tail _ (.tail _ (.tail _ (.tail _ (.tail _ (.head _))))))).c2; have s3 := (HK.out.a _ (.tail _ (.tail _ (.tail _ (.tail _ (.tail _ (.head _))))))).c3; have s4 := (HK.out.a _ (.tail _ (.tail _ (.tail _ (.tail _ (.tail _ (.head _))))))).c4; have l0 := (HK.out.a _ (.tail _ (.tail _ (.tail _ (.tail _ (.head _)))))).c0; have l1 := (HK.out.a _ (.tail _ (.tail _ (.tail _ (.tail _ (.head _)))))).c1; have l2 := (HK.out.a _ (.tail _ (.tail _ (.tail _ (.tail _ (.head _)))))).c2; have l3 := (HK.out.a _ (.tail _ (.tail _ (.tail _ (.tail _ (.head _)))))).c3; have l4 := (HK.out.a _ (.tail _ (.tail _ (.tail _ (.tail _ (.head _)))))).c4; have c0 := (HK.out.a _ (.tail _ (.tail _ (.tail _ (.head _))))).c0; have c1 := (HK.out.a _ (.tail _ (.tail _ (.tail _ (.head _))))).c1; have c2 := (HK.out.a _ (.tail _ (.tail _ (.tail _ (.head _))))).c2; have c3 := (HK.out.a _ (.tail _ (.tail _ (.tail _ (.head _))))).c3; have c4 := (HK.out.a _ (.tail _ (.tail _ (.tail _ (.head _))))).c4; have row0 := (HK.out.a _ (.tail _ (.tail _ (.head _)))).c0; have row1 := (HK.out.a _ (.tail _ (.tail _ (.head _)))).c1; have row2 := (HK.out.a _ (.tail _ (.tail _ (.head _)))).c2; have row3 := (HK.out.a _ (.tail _ (.tail _ (.head _)))).c3; have row4 := (HK.out.a _ (.tail _ (.tail _ (.head _)))).c4; have qx0 := (HK.out.a _ (.tail _ (.head _))).c0; have qx1 := (HK.out.a _ (.tail _ (.head _))).c1; have qx2 := (HK.out.a _ (.tail _ (.head _))).c2; have qx3 := (HK.out.a _ (.tail _ (.head _))).c3; have qx4 := (HK.out.a _ (.tail _ (.head _))).c4; have qy0 := (HK.out.a _ (.head _)).c0; have qy1 := (HK.out.a _ (.head _)).c1; have qy2 := (HK.out.a _ (.head _)).c2; have qy3 := (HK.out.a _ (.head _)).c3; have qy4 := (HK.out.a _ (.head _)).c4)
              | (go_at_call 34; (with_reducible refine (HQ3.out _ _ (by with_unfolding_all exact HK.out.lay) (by with_unfolding_all exact HK.out.r _ (.tail _ (.tail _ (.head _)))) (by with_unfolding_all exact HK.out.n _ (.tail _ (.tail _ (.head _))))).mono ?_); rintro e wr4 ⟨uwr4, rfl, hu, hb⟩; obtain ⟨pwr4, cwr4, hpwr4, _, _⟩ := hu.form; have hqwr4 : uwr4 = (.slice pwr4 1 cwr4) := hpwr4; subst hqwr4; clear hpwr4; have hltqyqz : wr3.heap.size < wr4.heap.size := Nat.lt_of_lt_of_le (HK.out.lt _ (.head _)) hb.size; have hltqxqz : wr2.heap.size < wr4.heap.size := Nat.lt_of_lt_of_le (HK.out.lt _ (.tail _ (.head _))) hb.size; have hltrowqz : wr1.heap.size < wr4.heap.size := Nat.lt_of_lt_of_le (HK.out.lt _ (.tail _ (.tail _ (.head _)))) hb.size; have hltcqz : wcn.heap.size < wr4.heap.size := Nat.lt_of_lt_of_le (HK.out.lt _ (.tail _ (.tail _ (.tail _ (.head _))))) hb.size; have hltlqz : wb.heap.size < wr4.heap.size := Nat.lt_of_lt_of_le (HK.out.lt _ (.tail _ (.tail _ (.tail _ (.tail _ (.head _)))))) hb.size; have hltsqz : wa.heap.size < wr4.heap.size := Nat.lt_of_lt_of_le (HK.out.lt _ (.tail _ (.tail _ (.tail _ (.tail _ (.tail _ (.head _))))))) hb.size; have hltxqz : w.heap.size < wr4.heap.size := Nat.lt_of_lt_of_le (HK.out.lt _ (.tail _ (.tail _ (.tail _ (.tail _ (.tail _ (.tail _ (.head _)))))))) hb.size; have HK2 := Lib.hid (HK.out.res hb ⟨1, 0, 0, 0, [(m : Int)]⟩ hu); clear HK x0 x1 x2 x3 x4 s0 s1 s2 s3 s4 l0 l1 l2 l3 l4 c0 c1 c2 c3 c4 row0 row1 row2 row3 row4 qx0 qx1 qx2 qx3 qx4 qy0 qy1 qy2 qy3 qy4; have HK := HK2; clear HK2; clear hb hu; have x0 := (HK.out.a _ (.tail _ (.tail _ (.tail _ (.tail _ (.tail _ (.tail _ (.tail _ (.head _))))))))).c0; have x1 := (HK.out.a _ (.tail _ (.tail _ (.tail _ (.tail _ (.tail _ (.tail _ (.tail _ (.head _))))))))).c1; have x2 := (HK.out.a _ (.tail _ (.tail _ (.tail _ (.tail _ (.tail _ (.tail _ (.tail _ (.head _))))))))).c2; have x3 := (HK.out.a _ (.tail _ (.tail _ (.tail _ (.tail _ (.tail _ (.tail _ (.tail _ (.head _))))))))).c3; have x4 := (HK.out.a _ (.tail _ (.tail _ (.tail _ (.tail _ (.tail _ (.tail _ (.tail _ (.head _))))))))).c4; have s0 := (HK.out.a _ (.tail _ (.tail _ (.tail _ (.tail _ (.tail _ (.tail _ (.head _)))))))).c0; have s1 := (HK.out.a _ (.tail _ (.tail _ (.tail _ (.tail _ (.tail _ (.tail _ (.head _)))))))).c1; have s2 := (HK.out.a _ (.tail _ (.tail _ (.tail _ (.tail _ (.tail _ (.tail _ (.head _)))))))).c2; have s3 := (HK.out.a _ (.tail _ (.tail _ (.tail _ (.tail _ (.tail _ (.tail _ (.head _)))))))).c3; have s4 := (HK.out.a _ (.tail _ (.tail _ (.tail _ (.tail _ (.tail _ (.tail _ (.head _)))))))).c4; have l0 := (HK.out.a _ (.tail _ (.tail _ (.tail _ (.tail _ (.tail _ (.head _))))))).c0; have l1 := (HK.out.a _ (.tail _ (.tail _ (.tail _ (.tail _ (.tail _ (.head _))))))).c1; have l2 := (HK.out.a _ (.tail _ (.tail _ (.tail _ (.tail _ (.tail _ (.head _))))))).c2; have l3 := (HK.out.a _ (.tail _ (.tail _ (.tail _ (.tail _ (.tail _ (.head _))))))).c3; have l4 := (HK.out.a _ (.tail _ (.tail _ (.tail _ (.tail _ (.tail _ (.head _))))))).c4; have c0 := (HK.out.a _ (.tail _ (.tail _ (.tail _ (.tail _ (.head _)))))).c0; have c1 := (HK.out.a _ (.tail _ (.tail _ (.tail _ (.tail _ (.head _)))))).c1; have c2 := (HK.out.a _ (.tail _ (.tail _ (.tail _ (.tail _ (.head _)))))).c2; have c3 := (HK.out.a _ (.tail _ (.tail _ (.tail _ (.tail _ (.head _)))))).c3; have c4 := (HK.out.a _ (.tail _ (.tail _ (.tail _ (.tail _ (.head _)))))).c4; have row0 := (HK.out.a _ (.tail _ (.tail _ (.tail _ (.head _))))).c0; have row1 := (HK.out.a _ (.tail _ (.tail _ (.tail _ (.head _))))).c1; have row2 := (HK.out.a _ (.tail _ (.tail _ (.tail _ (.head _))))).c2; have row3 := (HK.out.a _ (.tail _ (.tail _ (.tail _ (.head _))))).c3; have row4 := (HK.out.a _ (.tail _ (.tail _ (.tail _ (.head _))))).c4; have qx0 := (HK.out.a _ (.tail _ (.tail _ (.head _)))).c0; have qx1 := (HK.out.a _ (.tail _ (.tail _ (.head _)))).c1; have qx2 := (HK.out.a _ (.tail _ (.tail _ (.head _)))).c2; have qx3 := (HK.out.a _ (.tail _ (.tail _ (.head _)))).c3; have qx4 := (HK.out.a _ (.tail _ (.tail _ (.head _)))).c4; have qy0 := (HK.out.a _ (.tail _ (.head _))).c0; have qy1 := (HK.out.a _ (.tail _ (.head _))).c1; have qy2 := (HK.out.a _ (.tail _ (.head _))).c2; have qy3 := (HK.out.a _ (.tail _ (.head _))).c3; have qy4 := (HK.out.a _ (.tail _ (.head _))).c4; have qz0 := (HK.out.a _ (.head _)).c0; have qz1 := (HK.out.a _ (.head _)).c1; have qz2 := (HK.out.a _ (.head _)).c2; have qz3 := (HK.out.a _ (.head _)).c3; have qz4 := (HK.out.a _ (.head _)).c4)
              | fail)
            generalize hWq : World.alloc wr4 _ = W0 at HK ⊢
            clear hWq x0 x1 x2 x3 x4 s0 s1 s2 s3 s4 l0 l1 l2 l3 l4 c0 c1 c2 c3 c4 row0 row1 row2 row3 row4 qx0 qx1 qx2 qx3 qx4 qy0 qy1 qy2 qy3 qy4 qz0 qz1 qz2 qz3 qz4
            obtain ⟨bz, oz, hp_qz, hb_qz, hc_qz⟩ := (HK.out.r _ (.head _)).cells (by simp)
            subst hp_qz
            have g_qz : W0.cell? ⟨bz, oz, none⟩ = some (.int .i64 (m : Int)) := by have := hc_qz 0 (by simp); rw [Nat.add_zero] at this; exact this
            clear hc_qz
            obtain ⟨bc, oc, hp_c, hb_c, hc_c⟩ := (HK.out.r _ (.tail _ (.tail _ (.tail _ (.tail _ (.head _)))))).cells (by intro e; have e2 : cz = [] := e; rw [e2] at hjc; simp at hjc)
            subst hp_c
            have g_c : W0.cell? ⟨bc, oc + j, none⟩ = some (.int .i64 cz[j]) := hc_c j hjc
            rw [← show cz.getD j 0 = cz[j] by simp [List.getD_eq_getElem?_getD, hjc], hCv] at g_c
            clear hc_c
            obtain ⟨bx, ox, hp_qx, hb_qx, hc_qx⟩ := (HK.out.r _ (.tail _ (.tail _ (.head _)))).cells (by simp)
            subst hp_qx
            have g_qx : W0.cell? ⟨bx, ox, none⟩ = some (.int .i64 xv) := by have := hc_qx 0 (by simp); rw [Nat.add_zero] at this; exact this
            clear hc_qx
            obtain ⟨bs, os, hp_s, hb_s, hc_s⟩ := (HK.out.r _ (.tail _ (.tail _ (.tail _ (.tail _ (.tail _ (.tail _ (.head _)))))))).cells (by intro e; have e2 : sz = [] := e; rw [e2] at hjs; simp at hjs)
            subst hp_s
            have g_s : W0.cell? ⟨bs, os + j, none⟩ = some (.int .i64 sz[j]) := hc_s j hjs
            rw [← show sz.getD j 0 = sz[j] by simp [List.getD_eq_getElem?_getD, hjs], hSv1] at g_s
            clear hc_s
            obtain ⟨b_y, oy, hp_qy, hb_qy, hc_qy⟩ := (HK.out.r _ (.tail _ (.head _))).cells (by simp)
            subst hp_qy
            have g_qy : W0.cell? ⟨b_y, oy, none⟩ = some (.int .i64 yv) := by have := hc_qy 0 (by simp); rw [Nat.add_zero] at this; exact this
            clear hc_qy
            obtain ⟨bl, ol, hp_l, hb_l, hc_l⟩ := (HK.out.r _ (.tail _ (.tail _ (.tail _ (.tail _ (.tail _ (.head _))))))).cells (by intro e; have e2 : lz = [] := e; rw [e2] at hjl; simp at hjl)
            subst hp_l
            have g_l : W0.cell? ⟨bl, ol + j, none⟩ = some (.int .i64 lz[j]) := hc_l j hjl
            rw [← show lz.getD j 0 = lz[j] by simp [List.getD_eq_getElem?_getD, hjl], hLv1] at g_l
            clear hc_l
            have s0 := (HK.out.a _ (.tail _ (.tail _ (.tail _ (.tail _ (.tail _ (.tail _ (.head _)))))))).c0
            have s1 := (HK.out.a _ (.tail _ (.tail _ (.tail _ (.tail _ (.tail _ (.tail _ (.head _)))))))).c1
            have s2 := (HK.out.a _ (.tail _ (.tail _ (.tail _ (.tail _ (.tail _ (.tail _ (.head _)))))))).c2
            have s3 := (HK.out.a _ (.tail _ (.tail _ (.tail _ (.tail _ (.tail _ (.tail _ (.head _)))))))).c3
            have s4 := (HK.out.a _ (.tail _ (.tail _ (.tail _ (.tail _ (.tail _ (.tail _ (.head _)))))))).c4
            have l0 := (HK.out.a _ (.tail _ (.tail _ (.tail _ (.tail _ (.tail _ (.head _))))))).c0
            have l1 := (HK.out.a _ (.tail _ (.tail _ (.tail _ (.tail _ (.tail _ (.head _))))))).c1
            have l2 := (HK.out.a _ (.tail _ (.tail _ (.tail _ (.tail _ (.tail _ (.head _))))))).c2
            have l3 := (HK.out.a _ (.tail _ (.tail _ (.tail _ (.tail _ (.tail _ (.head _))))))).c3
            have l4 := (HK.out.a _ (.tail _ (.tail _ (.tail _ (.tail _ (.tail _ (.head _))))))).c4
            have c0 := (HK.out.a _ (.tail _ (.tail _ (.tail _ (.tail _ (.head _)))))).c0
            have c1 := (HK.out.a _ (.tail _ (.tail _ (.tail _ (.tail _ (.head _)))))).c1
            have c2 := (HK.out.a _ (.tail _ (.tail _ (.tail _ (.tail _ (.head _)))))).c2
            have c3 := (HK.out.a _ (.tail _ (.tail _ (.tail _ (.tail _ (.head _)))))).c3
            have c4 := (HK.out.a _ (.tail _ (.tail _ (.tail _ (.tail _ (.head _)))))).c4
            have qx0 := (HK.out.a _ (.tail _ (.tail _ (.head _)))).c0
            have qx1 := (HK.out.a _ (.tail _ (.tail _ (.head _)))).c1
            have qx2 := (HK.out.a _ (.tail _ (.tail _ (.head _)))).c2
            have qx3 := (HK.out.a _ (.tail _ (.tail _ (.head _)))).c3
            have qx4 := (HK.out.a _ (.tail _ (.tail _ (.head _)))).c4
            have qy0 := (HK.out.a _ (.tail _ (.head _))).c0
            have qy1 := (HK.out.a _ (.tail _ (.head _))).c1
            have qy2 := (HK.out.a _ (.tail _ (.head _))).c2
            have qy3 := (HK.out.a _ (.tail _ (.head _))).c3
            have qy4 := (HK.out.a _ (.tail _ (.head _))).c4
            have qz0 := (HK.out.a _ (.head _)).c0
            have qz1 := (HK.out.a _ (.head _)).c1
            have qz2 := (HK.out.a _ (.head _)).c2
            have qz3 := (HK.out.a _ (.head _)).c3
            have qz4 := (HK.out.a _ (.head _)).c4
            go_wp2_with fail
            go_quiet (fail)
            generalize hW0 : World.drewN W0 _ = W1
            have hd0 : Below W0.heap.size W0 W1 := by rw [← hW0]; exact drewN_below _ _
            have HKn := Lib.hid (HK.out.next hd0)
            have g1_qz : W1.cell? ⟨bz, oz, none⟩ = some (.int .i64 (m : Int)) := (hd0.cell (p := ⟨bz, oz, none⟩) hb_qz).trans g_qz
            have hb1_qz : bz < W1.heap.size := Nat.lt_of_lt_of_le hb_qz hd0.size
            clear g_qz hb_qz
            have g_qz := g1_qz
            have hb_qz := hb1_qz
            clear g1_qz hb1_qz
            have g1_c : W1.cell? ⟨bc, oc + j, none⟩ = some (.int .i64 (m : Int)) := (hd0.cell (p := ⟨bc, oc + j, none⟩) hb_c).trans g_c
            have hb1_c : bc < W1.heap.size := Nat.lt_of_lt_of_le hb_c hd0.size
            clear g_c hb_c
            have g_c := g1_c
            have hb_c := hb1_c
            clear g1_c hb1_c
            have g1_qx : W1.cell? ⟨bx, ox, none⟩ = some (.int .i64 xv) := (hd0.cell (p := ⟨bx, ox, none⟩) hb_qx).trans g_qx
            have hb1_qx : bx < W1.heap.size := Nat.lt_of_lt_of_le hb_qx hd0.size
            clear g_qx hb_qx
            have g_qx := g1_qx
            have hb_qx := hb1_qx
            clear g1_qx hb1_qx
            have g1_s : W1.cell? ⟨bs, os + j, none⟩ = some (.int .i64 xv) := (hd0.cell (p := ⟨bs, os + j, none⟩) hb_s).trans g_s
            have hb1_s : bs < W1.heap.size := Nat.lt_of_lt_of_le hb_s hd0.size
            clear g_s hb_s
            have g_s := g1_s
            have hb_s := hb1_s
            clear g1_s hb1_s
            have g1_qy : W1.cell? ⟨b_y, oy, none⟩ = some (.int .i64 yv) := (hd0.cell (p := ⟨b_y, oy, none⟩) hb_qy).trans g_qy
            have hb1_qy : b_y < W1.heap.size := Nat.lt_of_lt_of_le hb_qy hd0.size
            clear g_qy hb_qy
            have g_qy := g1_qy
            have hb_qy := hb1_qy
            clear g1_qy hb1_qy
            have g1_l : W1.cell? ⟨bl, ol + j, none⟩ = some (.int .i64 yv) := (hd0.cell (p := ⟨bl, ol + j, none⟩) hb_l).trans g_l
            have hb1_l : bl < W1.heap.size := Nat.lt_of_lt_of_le hb_l hd0.size
            clear g_l hb_l
            have g_l := g1_l
            have hb_l := hb1_l
            clear g1_l hb1_l
            clear HK hW0 hd0 s0 s1 s2 s3 s4 l0 l1 l2 l3 l4 c0 c1 c2 c3 c4 qx0 qx1 qx2 qx3 qx4 qy0 qy1 qy2 qy3 qy4 qz0 qz1 qz2 qz3 qz4
            have HK := HKn
            clear HKn
            have s0 := (HK.out.a _ (.tail _ (.tail _ (.tail _ (.tail _ (.tail _ (.tail _ (.head _)))))))).c0
            have s1 := (HK.out.a _ (.tail _ (.tail _ (.tail _ (.tail _ (.tail _ (.tail _ (.head _)))))))).c1
            have s2 := (HK.out.a _ (.tail _ (.tail _ (.tail _ (.tail _ (.tail _ (.tail _ (.head _)))))))).c2
            have s3 := (HK.out.a _ (.tail _ (.tail _ (.tail _ (.tail _ (.tail _ (.tail _ (.head _)))))))).c3
            have s4 := (HK.out.a _ (.tail _ (.tail _ (.tail _ (.tail _ (.tail _ (.tail _ (.head _)))))))).c4
            have l0 := (HK.out.a _ (.tail _ (.tail _ (.tail _ (.tail _ (.tail _ (.head _))))))).c0
            have l1 := (HK.out.a _ (.tail _ (.tail _ (.tail _ (.tail _ (.tail _ (.head _))))))).c1
            have l2 := (HK.out.a _ (.tail _ (.tail _ (.tail _ (.tail _ (.tail _ (.head _))))))).c2
            have l3 := (HK.out.a _ (.tail _ (.tail _ (.tail _ (.tail _ (.tail _ (.head _))))))).c3
            have l4 := (HK.out.a _ (.tail _ (.tail _ (.tail _ (.tail _ (.tail _ (.head _))))))).c4
            have c0 := (HK.out.a _ (.tail _ (.tail _ (.tail _ (.tail _ (.head _)))))).c0
            have c1 := (HK.out.a _ (.tail _ (.tail _ (.tail _ (.tail _ (.head _)))))).c1
            have c2 := (HK.out.a _ (.tail _ (.tail _ (.tail _ (.tail _ (.head _)))))).c2
            have c3 := (HK.out.a _ (.tail _ (.tail _ (.tail _ (.tail _ (.head _)))))).c3
            have c4 := (HK.out.a _ (.tail _ (.tail _ (.tail _ (.tail _ (.head _)))))).c4
            have qx0 := (HK.out.a _ (.tail _ (.tail _ (.head _)))).c0
            have qx1 := (HK.out.a _ (.tail _ (.tail _ (.head _)))).c1
            have qx2 := (HK.out.a _ (.tail _ (.tail _ (.head _)))).c2
            have qx3 := (HK.out.a _ (.tail _ (.tail _ (.head _)))).c3
            have qx4 := (HK.out.a _ (.tail _ (.tail _ (.head _)))).c4
            have qy0 := (HK.out.a _ (.tail _ (.head _))).c0
            have qy1 := (HK.out.a _ (.tail _ (.head _))).c1
            have qy2 := (HK.out.a _ (.tail _ (.head _))).c2
            have qy3 := (HK.out.a _ (.tail _ (.head _))).c3
            have qy4 := (HK.out.a _ (.tail _ (.head _))).c4
            have qz0 := (HK.out.a _ (.head _)).c0
            have qz1 := (HK.out.a _ (.head _)).c1
            have qz2 := (HK.out.a _ (.head _)).c2
            have qz3 := (HK.out.a _ (.head _)).c3
            have qz4 := (HK.out.a _ (.head _)).c4
            go_wp2_with fail
            go_quiet (fail)
            generalize hW1 : World.drewN W1 _ = W2
            have hd1 : Below W1.heap.size W1 W2 := by rw [← hW1]; exact drewN_below _ _
            have HKn := Lib.hid (HK.out.next hd1)
            have g1_qz : W2.cell? ⟨bz, oz, none⟩ = some (.int .i64 (m : Int)) := (hd1.cell (p := ⟨bz, oz, none⟩) hb_qz).trans g_qz
            have hb1_qz : bz < W2.heap.size := Nat.lt_of_lt_of_le hb_qz hd1.size
            clear g_qz hb_qz
            have g_qz := g1_qz
            have hb_qz := hb1_qz
            clear g1_qz hb1_qz
            have g1_c : W2.cell? ⟨bc, oc + j, none⟩ = some (.int .i64 (m : Int)) := (hd1.cell (p := ⟨bc, oc + j, none⟩) hb_c).trans g_c
            have hb1_c : bc < W2.heap.size := Nat.lt_of_lt_of_le hb_c hd1.size
            clear g_c hb_c
            have g_c := g1_c
            have hb_c := hb1_c
            clear g1_c hb1_c
            have g1_qx : W2.cell? ⟨bx, ox, none⟩ = some (.int .i64 xv) := (hd1.cell (p := ⟨bx, ox, none⟩) hb_qx).trans g_qx
            have hb1_qx : bx < W2.heap.size := Nat.lt_of_lt_of_le hb_qx hd1.size
            clear g_qx hb_qx
            have g_qx := g1_qx
            have hb_qx := hb1_qx
            clear g1_qx hb1_qx
            have g1_s : W2.cell? ⟨bs, os + j, none⟩ = some (.int .i64 xv) := (hd1.cell (p := ⟨bs, os + j, none⟩) hb_s).trans g_s
            have hb1_s : bs < W2.heap.size := Nat.lt_of_lt_of_le hb_s hd1.size
            clear g_s hb_s
            have g_s := g1_s
            have hb_s := hb1_s
            clear g1_s hb1_s
            have g1_qy : W2.cell? ⟨b_y, oy, none⟩ = some (.int .i64 yv) := (hd1.cell (p := ⟨b_y, oy, none⟩) hb_qy).trans g_qy
            have hb1_qy : b_y < W2.heap.size := Nat.lt_of_lt_of_le hb_qy hd1.size
            clear g_qy hb_qy
            have g_qy := g1_qy
            have hb_qy := hb1_qy
            clear g1_qy hb1_qy
            have g1_l : W2.cell? ⟨bl, ol + j, none⟩ = some (.int .i64 yv) := (hd1.cell (p := ⟨bl, ol + j, none⟩) hb_l).trans g_l
            have hb1_l : bl < W2.heap.size := Nat.lt_of_lt_of_le hb_l hd1.size
            clear g_l hb_l
            have g_l := g1_l
            have hb_l := hb1_l
            clear g1_l hb1_l
            clear HK hW1 hd1 s0 s1 s2 s3 s4 l0 l1 l2 l3 l4 c0 c1 c2 c3 c4 qx0 qx1 qx2 qx3 qx4 qy0 qy1 qy2 qy3 qy4 qz0 qz1 qz2 qz3 qz4
            have HK := HKn
            clear HKn
            have s0 := (HK.out.a _ (.tail _ (.tail _ (.tail _ (.tail _ (.tail _ (.tail _ (.head _)))))))).c0
            have s1 := (HK.out.a _ (.tail _ (.tail _ (.tail _ (.tail _ (.tail _ (.tail _ (.head _)))))))).c1
            have s2 := (HK.out.a _ (.tail _ (.tail _ (.tail _ (.tail _ (.tail _ (.tail _ (.head _)))))))).c2
            have s3 := (HK.out.a _ (.tail _ (.tail _ (.tail _ (.tail _ (.tail _ (.tail _ (.head _)))))))).c3
            have s4 := (HK.out.a _ (.tail _ (.tail _ (.tail _ (.tail _ (.tail _ (.tail _ (.head _)))))))).c4
            have l0 := (HK.out.a _ (.tail _ (.tail _ (.tail _ (.tail _ (.tail _ (.head _))))))).c0
            have l1 := (HK.out.a _ (.tail _ (.tail _ (.tail _ (.tail _ (.tail _ (.head _))))))).c1
            have l2 := (HK.out.a _ (.tail _ (.tail _ (.tail _ (.tail _ (.tail _ (.head _))))))).c2
            have l3 := (HK.out.a _ (.tail _ (.tail _ (.tail _ (.tail _ (.tail _ (.head _))))))).c3
            have l4 := (HK.out.a _ (.tail _ (.tail _ (.tail _ (.tail _ (.tail _ (.head _))))))).c4
            have c0 := (HK.out.a _ (.tail _ (.tail _ (.tail _ (.tail _ (.head _)))))).c0
            have c1 := (HK.out.a _ (.tail _ (.tail _ (.tail _ (.tail _ (.head _)))))).c1
            have c2 := (HK.out.a _ (.tail _ (.tail _ (.tail _ (.tail _ (.head _)))))).c2
            have c3 := (HK.out.a _ (.tail _ (.tail _ (.tail _ (.tail _ (.head _)))))).c3
            have c4 := (HK.out.a _ (.tail _ (.tail _ (.tail _ (.tail _ (.head _)))))).c4
            have qx0 := (HK.out.a _ (.tail _ (.tail _ (.head _)))).c0
            have qx1 := (HK.out.a _ (.tail _ (.tail _ (.head _)))).c1
            have qx2 := (HK.out.a _ (.tail _ (.tail _ (.head _)))).c2
            have qx3 := (HK.out.a _ (.tail _ (.tail _ (.head _)))).c3
            have qx4 := (HK.out.a _ (.tail _ (.tail _ (.head _)))).c4
            have qy0 := (HK.out.a _ (.tail _ (.head _))).c0
            have qy1 := (HK.out.a _ (.tail _ (.head _))).c1
            have qy2 := (HK.out.a _ (.tail _ (.head _))).c2
            have qy3 := (HK.out.a _ (.tail _ (.head _))).c3
            have qy4 := (HK.out.a _ (.tail _ (.head _))).c4
            have qz0 := (HK.out.a _ (.head _)).c0
            have qz1 := (HK.out.a _ (.head _)).c1
            have qz2 := (HK.out.a _ (.head _)).c2
            have qz3 := (HK.out.a _ (.head _)).c3
            have qz4 := (HK.out.a _ (.head _)).c4
            go_wp2_with fail
            go_quiet (fail)
            generalize hW2 : World.drewN W2 _ = W3
            have hd2 : Below W2.heap.size W2 W3 := by rw [← hW2]; exact drewN_below _ _
            have HKn := Lib.hid (HK.out.next hd2)
            have g1_qz : W3.cell? ⟨bz, oz, none⟩ = some (.int .i64 (m : Int)) := (hd2.cell (p := ⟨bz, oz, none⟩) hb_qz).trans g_qz
            have hb1_qz : bz < W3.heap.size := Nat.lt_of_lt_of_le hb_qz hd2.size
            clear g_qz hb_qz
            have g_qz := g1_qz
            have hb_qz := hb1_qz
            clear g1_qz hb1_qz
            have g1_c : W3.cell? ⟨bc, oc + j, none⟩ = some (.int .i64 (m : Int)) := (hd2.cell (p := ⟨bc, oc + j, none⟩) hb_c).trans g_c
            have hb1_c : bc < W3.heap.size := Nat.lt_of_lt_of_le hb_c hd2.size
            clear g_c hb_c
            have g_c := g1_c
            have hb_c := hb1_c
            clear g1_c hb1_c
            have g1_qx : W3.cell? ⟨bx, ox, none⟩ = some (.int .i64 xv) := (hd2.cell (p := ⟨bx, ox, none⟩) hb_qx).trans g_qx
            have hb1_qx : bx < W3.heap.size := Nat.lt_of_lt_of_le hb_qx hd2.size
            clear g_qx hb_qx
            have g_qx := g1_qx
            have hb_qx := hb1_qx
            clear g1_qx hb1_qx
            have g1_s : W3.cell? ⟨bs, os + j, none⟩ = some (.int .i64 xv) := (hd2.cell (p := ⟨bs, os + j, none⟩) hb_s).trans g_s
            have hb1_s : bs < W3.heap.size := Nat.lt_of_lt_of_le hb_s hd2.size
            clear g_s hb_s
            have g_s := g1_s
            have hb_s := hb1_s
            clear g1_s hb1_s
            have g1_qy : W3.cell? ⟨b_y, oy, none⟩ = some (.int .i64 yv) := (hd2.cell (p := ⟨b_y, oy, none⟩) hb_qy).trans g_qy
            have hb1_qy : b_y < W3.heap.size := Nat.lt_of_lt_of_le hb_qy hd2.size
            clear g_qy hb_qy
            have g_qy := g1_qy
            have hb_qy := hb1_qy
            clear g1_qy hb1_qy
            have g1_l : W3.cell? ⟨bl, ol + j, none⟩ = some (.int .i64 yv) := (hd2.cell (p := ⟨bl, ol + j, none⟩) hb_l).trans g_l
            have hb1_l : bl < W3.heap.size := Nat.lt_of_lt_of_le hb_l hd2.size
            clear g_l hb_l
            have g_l := g1_l
            have hb_l := hb1_l
            clear g1_l hb1_l
            clear HK hW2 hd2 s0 s1 s2 s3 s4 l0 l1 l2 l3 l4 c0 c1 c2 c3 c4 qx0 qx1 qx2 qx3 qx4 qy0 qy1 qy2 qy3 qy4 qz0 qz1 qz2 qz3 qz4
            have HK := HKn
            clear HKn
            have s0 := (HK.out.a _ (.tail _ (.tail _ (.tail _ (.tail _ (.tail _ (.tail _ (.head _)))))))).c0
            have s1 := (HK.out.a _ (.tail _ (.tail _ (.tail _ (.tail _ (.tail _ (.tail _ (.head _)))))))).c1
            have s2 := (HK.out.a _ (.tail _ (.tail _ (.tail _ (.tail _ (.tail _ (.tail _ (.head _)))))))).c2
            have s3 := (HK.out.a _ (.tail _ (.tail _ (.tail _ (.tail _ (.tail _ (.tail _ (.head _)))))))).c3
            have s4 := (HK.out.a _ (.tail _ (.tail _ (.tail _ (.tail _ (.tail _ (.tail _ (.head _)))))))).c4
            have l0 := (HK.out.a _ (.tail _ (.tail _ (.tail _ (.tail _ (.tail _ (.head _))))))).c0
            have l1 := (HK.out.a _ (.tail _ (.tail _ (.tail _ (.tail _ (.tail _ (.head _))))))).c1
            have l2 := (HK.out.a _ (.tail _ (.tail _ (.tail _ (.tail _ (.tail _ (.head _))))))).c2
            have l3 := (HK.out.a _ (.tail _ (.tail _ (.tail _ (.tail _ (.tail _ (.head _))))))).c3
            have l4 := (HK.out.a _ (.tail _ (.tail _ (.tail _ (.tail _ (.tail _ (.head _))))))).c4
            have c0 := (HK.out.a _ (.tail _ (.tail _ (.tail _ (.tail _ (.head _)))))).c0
            have c1 := (HK.out.a _ (.tail _ (.tail _ (.tail _ (.tail _ (.head _)))))).c1
            have c2 := (HK.out.a _ (.tail _ (.tail _ (.tail _ (.tail _ (.head _)))))).c2
            have c3 := (HK.out.a _ (.tail _ (.tail _ (.tail _ (.tail _ (.head _)))))).c3
            have c4 := (HK.out.a _ (.tail _ (.tail _ (.tail _ (.tail _ (.head _)))))).c4
            have qx0 := (HK.out.a _ (.tail _ (.tail _ (.head _)))).c0
            have qx1 := (HK.out.a _ (.tail _ (.tail _ (.head _)))).c1
            have qx2 := (HK.out.a _ (.tail _ (.tail _ (.head _)))).c2
            have qx3 := (HK.out.a _ (.tail _ (.tail _ (.head _)))).c3
            have qx4 := (HK.out.a _ (.tail _ (.tail _ (.head _)))).c4
            have qy0 := (HK.out.a _ (.tail _ (.head _))).c0
            have qy1 := (HK.out.a _ (.tail _ (.head _))).c1
            have qy2 := (HK.out.a _ (.tail _ (.head _))).c2
            have qy3 := (HK.out.a _ (.tail _ (.head _))).c3
            have qy4 := (HK.out.a _ (.tail _ (.head _))).c4
            have qz0 := (HK.out.a _ (.head _)).c0
            have qz1 := (HK.out.a _ (.head _)).c1
            have qz2 := (HK.out.a _ (.head _)).c2
            have qz3 := (HK.out.a _ (.head _)).c3
            have qz4 := (HK.out.a _ (.head _)).c4
            go_wp2_with fail
            go_roundg g2
            case measure => omega
            case rel => exact ⟨j + 1, _, _, by omega, rfl, rfl, by go_num, HFn.out, HGn.out, HK.out.drop (fun b m => by simp only [List.mem_cons, List.not_mem_nil, or_false] at m ⊢; rcases m with rfl | rfl | rfl | rfl <;> simp)⟩
        · by_cases h20 : (sm1 row).2 = 0
          · skip
            have hs12 := HS12.out hs
            have hq := (vR h20).2
            rw [hq, h20] at HQ1
            have HFn : Hid (E1 = feL (cs.take (j + 1))) := by unfold Hid; rw [hft, h20]; by_cases e : E1 = 0; (· rw [if_pos e]; exact e); rw [if_neg e]
            subst hs12
            generalize row.sum = xv at HQ1
            clear vR hq h20 hft hSv hsm hs
            as_aux_lemma =>
              go_wp2_with (first
                | (go_at_call 22; (with_reducible refine (HVc.out _ (HRd.out _ _ (by with_unfolding_all exact HK.out.r _ (.tail _ (.tail _ (.tail _ (.head _))))))).mono ?_); rintro e wr1 ⟨uwr1, rfl, hu, hb⟩; obtain ⟨pwr1, cwr1, hpwr1, _, _⟩ := hu.form; have hqwr1 : uwr1 = (.slice pwr1 m cwr1) := (by rw [hpwr1, HIl.out]); subst hqwr1; clear hpwr1; have hltcrow : wcn.heap.size < wr1.heap.size := Nat.lt_of_lt_of_le (HK.out.lt _ (.head _)) hb.size; have hltlrow : wb.heap.size < wr1.heap.size := Nat.lt_of_lt_of_le (HK.out.lt _ (.tail _ (.head _))) hb.size; have hltsrow : wa.heap.size < wr1.heap.size := Nat.lt_of_lt_of_le (HK.out.lt _ (.tail _ (.tail _ (.head _)))) hb.size; have hltxrow : w.heap.size < wr1.heap.size := Nat.lt_of_lt_of_le (HK.out.lt _ (.tail _ (.tail _ (.tail _ (.head _))))) hb.size; have HK2 := Lib.hid (HK.out.res hb ⟨1, 1, (m : Int), 0, row⟩ hu); clear HK x0 x1 x2 x3 x4 s0 s1 s2 s3 s4 l0 l1 l2 l3 l4 c0 c1 c2 c3 c4; have HK := HK2; clear HK2; clear hb hu; have x0 := (HK.out.a _ (.tail _ (.tail _ (.tail _ (.tail _ (.head _)))))).c0; have x1 := (HK.out.a _ (.tail _ (.tail _ (.tail _ (.tail _ (.head _)))))).c1; have x2 := (HK.out.a _ (.tail _ (.tail _ (.tail _ (.tail _ (.head _)))))).c2; have x3 := (HK.out.a _ (.tail _ (.tail _ (.tail _ (.tail _ (.head _)))))).c3; have x4 := (HK.out.a _ (.tail _ (.tail _ (.tail _ (.tail _ (.head _)))))).c4; have s0 := (HK.out.a _ (.tail _ (.tail _ (.tail _ (.head _))))).c0; have s1 := (HK.out.a _ (.tail _ (.tail _ (.tail _ (.head _))))).c1; have s2 := (HK.out.a _ (.tail _ (.tail _ (.tail _ (.head _))))).c2; have s3 := (HK.out.a _ (.tail _ (.tail _ (.tail _ (.head _))))).c3; have s4 := (HK.out.a _ (.tail _ (.tail _ (.tail _ (.head _))))).c4; have l0 := (HK.out.a _ (.tail _ (.tail _ (.head _)))).c0; have l1 := (HK.out.a _ (.tail _ (.tail _ (.head _)))).c1; have l2 := (HK.out.a _ (.tail _ (.tail _ (.head _)))).c2; have l3 := (HK.out.a _ (.tail _ (.tail _ (.head _)))).c3; have l4 := (HK.out.a _ (.tail _ (.tail _ (.head _)))).c4; have c0 := (HK.out.a _ (.tail _ (.head _))).c0; have c1 := (HK.out.a _ (.tail _ (.head _))).c1; have c2 := (HK.out.a _ (.tail _ (.head _))).c2; have c3 := (HK.out.a _ (.tail _ (.head _))).c3; have c4 := (HK.out.a _ (.tail _ (.head _))).c4; have row0 := (HK.out.a _ (.head _)).c0; have row1 := (HK.out.a _ (.head _)).c1; have row2 := (HK.out.a _ (.head _)).c2; have row3 := (HK.out.a _ (.head _)).c3; have row4 := (HK.out.a _ (.head _)).c4)
                | (go_at_call 26; (with_reducible refine (HQ1.out _ _ (by with_unfolding_all exact HK.out.lay) (by with_unfolding_all exact HK.out.r _ (.head _)) (by with_unfolding_all exact HK.out.n _ (.head _))).mono ?_); rintro e wr2 ⟨uwr2, rfl, hu, hb⟩; obtain ⟨pwr2, cwr2, hpwr2, _, _⟩ := hu.form; have hqwr2 : uwr2 = (.slice pwr2 1 cwr2) := hpwr2; subst hqwr2; clear hpwr2; have hltrowqx : wr1.heap.size < wr2.heap.size := Nat.lt_of_lt_of_le (HK.out.lt _ (.head _)) hb.size; have hltcqx : wcn.heap.size < wr2.heap.size := Nat.lt_of_lt_of_le (HK.out.lt _ (.tail _ (.head _))) hb.size; have hltlqx : wb.heap.size < wr2.heap.size := Nat.lt_of_lt_of_le (HK.out.lt _ (.tail _ (.tail _ (.head _)))) hb.size; have hltsqx : wa.heap.size < wr2.heap.size := Nat.lt_of_lt_of_le (HK.out.lt _ (.tail _ (.tail _ (.tail _ (.head _))))) hb.size; have hltxqx : w.heap.size < wr2.heap.size := Nat.lt_of_lt_of_le (HK.out.lt _ (.tail _ (.tail _ (.tail _ (.tail _ (.head _)))))) hb.size; have HK2 := Lib.hid (HK.out.res hb ⟨1, 0, 0, 0, [xv]⟩ hu); clear HK x0 x1 x2 x3 x4 s0 s1 s2 s3 s4 l0 l1 l2 l3 l4 c0 c1 c2 c3 c4 row0 row1 row2 row3 row4; have HK := HK2; clear HK2; clear hb hu; have x0 := (HK.out.a _ (.tail _ (.tail _ (.tail _ (.tail _ (.tail _ (.head _))))))).c0; have x1 := (HK.out.a _ (.tail _ (.tail _ (.tail _ (.tail _ (.tail _ (.head _))))))).c1; have x2 := (HK.out.a _ (.tail _ (.tail _ (.tail _ (.tail _ (.tail _ (.head _))))))).c2; have x3 := (HK.out.a _ (.tail _ (.tail _ (.tail _ (.tail _ (.tail _ (.head _))))))).c3; have x4 := (HK.out.a _ (.tail _ (.tail _ (.tail _ (.tail _ (.tail _ (.head _))))))).c4; have s0 := (HK.out.a _ (.tail _ (.tail _ (.tail _ (.tail _ (.head _)))))).c0; have s1 := (HK.out.a _ (.tail _ (.tail _ (.tail _ (.tail _ (.head _)))))).c1; have s2 := (HK.out.a _ (.tail _ (.tail _ (.tail _ (.tail _ (.head _)))))).c2; have s3 := (HK.out.a _ (.tail _ (.tail _ (.tail _ (.tail _ (.head _)))))).c3; have s4 := (HK.out.a _ (.tail _ (.tail _ (.tail _ (.tail _ (.head _)))))).c4; have l0 := (HK.out.a _ (.tail _ (.tail _ (.tail _ (.head _))))).c0; have l1 := (HK.out.a _ (.tail _ (.tail _ (.tail _ (.head _))))).c1; have l2 := (HK.out.a _ (.tail _ (.tail _ (.tail _ (.head _))))).c2; have l3 := (HK.out.a _ (.tail _ (.tail _ (.tail _ (.head _))))).c3; have l4 := (HK.out.a _ (.tail _ (.tail _ (.tail _ (.head _))))).c4; have c0 := (HK.out.a _ (.tail _ (.tail _ (.head _)))).c0; have c1 := (HK.out.a _ (.tail _ (.tail _ (.head _)))).c1; have c2 := (HK.out.a _ (.tail _ (.tail _ (.head _)))).c2; have c3 := (HK.out.a _ (.tail _ (.tail _ (.head _)))).c3; have c4 := (HK.out.a _ (.tail _ (.tail _ (.head _)))).c4; have row0 := (HK.out.a _ (.tail _ (.head _))).c0; have row1 := (HK.out.a _ (.tail _ (.head _))).c1; have row2 := (HK.out.a _ (.tail _ (.head _))).c2; have row3 := (HK.out.a _ (.tail _ (.head _))).c3; have row4 := (HK.out.a _ (.tail _ (.head _))).c4; have qx0 := (HK.out.a _ (.head _)).c0; have qx1 := (HK.out.a _ (.head _)).c1; have qx2 := (HK.out.a _ (.head _)).c2; have qx3 := (HK.out.a _ (.head _)).c3; have qx4 := (HK.out.a _ (.head _)).c4)
                | (go_at_call 30; (with_reducible refine (HQ2.out _ _ (by with_unfolding_all exact HK.out.lay) (by with_unfolding_all exact HK.out.r _ (.tail _ (.head _))) (by with_unfolding_all exact HK.out.n _ (.tail _ (.head _)))).mono ?_); rintro e wr3 ⟨uwr3, rfl, hu, hb⟩; obtain ⟨pwr3, cwr3, hpwr3, _, _⟩ := hu.form; have hqwr3 : uwr3 = (.slice pwr3 1 cwr3) := hpwr3; subst hqwr3; clear hpwr3; have hltqxqy : wr2.heap.size < wr3.heap.size := Nat.lt_of_lt_of_le (HK.out.lt _ (.head _)) hb.size; have hltrowqy : wr1.heap.size < wr3.heap.size := Nat.lt_of_lt_of_le (HK.out.lt _ (.tail _ (.head _))) hb.size; have hltcqy : wcn.heap.size < wr3.heap.size := Nat.lt_of_lt_of_le (HK.out.lt _ (.tail _ (.tail _ (.head _)))) hb.size; have hltlqy : wb.heap.size < wr3.heap.size := Nat.lt_of_lt_of_le (HK.out.lt _ (.tail _ (.tail _ (.tail _ (.head _))))) hb.size; have hltsqy : wa.heap.size < wr3.heap.size := Nat.lt_of_lt_of_le (HK.out.lt _ (.tail _ (.tail _ (.tail _ (.tail _ (.head _)))))) hb.size; have hltxqy : w.heap.size < wr3.heap.size := Nat.lt_of_lt_of_le (HK.out.lt _ (.tail _ (.tail _ (.tail _ (.tail _ (.tail _ (.head _))))))) hb.size; have HK2 := Lib.hid (HK.out.res hb ⟨1, 0, 0, 0, [yv]⟩ hu); clear HK x0 x1 x2 x3 x4 s0 s1 s2 s3 s4 l0 l1 l2 l3 l4 c0 c1 c2 c3 c4 row0 row1 row2 row3 row4 qx0 qx1 qx2 qx3 qx4; have HK := HK2; clear HK2; clear hb hu; have x0 := (HK.out.a _ (.tail _ (.tail _ (.tail _ (.tail _ (.tail _ (.tail _ (.head _)))))))).c0; have x1 := (HK.out.a _ (.tail _ (.tail _ (.tail _ (.tail _ (.tail _ (.tail _ (.head _)))))))).c1; have x2 := (HK.out.a _ (.tail _ (.tail _ (.tail _ (.tail _ (.tail _ (.tail _ (.head _)))))))).c2; have x3 := (HK.out.a _ (.tail _ (.tail _ (.tail _ (.tail _ (.tail _ (.tail _ (.head _)))))))).c3; have x4 := (HK.out.a _ (.tail _ (.tail _ (.tail _ (.tail _ (.tail _ (.tail _ (.head _)))))))).c4; have s0 := (HK.out.a _ (.tail _ (.tail _ (.tail _ (.tail _ (.tail _ (.head _))))))).c0; have s1 := (HK.out.a _ (.tail _ (.tail _ (.tail _ (.tail _ (.tail _ (.head _))))))).c1; have s2 := (HK.out.a _ (.tail _ (.tail _ (.tail _ (.tail _ (.tail _ (.head _))))))).c2; have s3 := (HK.out.a _ (.tail _ (.tail _ (.tail _ (.tail _ (.tail _ (.head _))))))).c3; have s4 := (HK.out.a _ (.tail _ (.tail _ (.tail _ (.tail _ (.tail _ (.head _))))))).c4; have l0 := (HK.out.a _ (.tail _ (.tail _ (.tail _ (.tail _ (.head _)))))).c0; have l1 := (HK.out.a _ (.tail _ (.tail _ (.tail _ (.tail _ (.head _)))))).c1; have l2 := (HK.out.a _ (.tail _ (.tail _ (.tail _ (.tail _ (.head _)))))).c2; have l3 := (HK.out.a _ (.tail _ (.tail _ (.tail _ (.tail _ (.head _)))))).c3; have l4 := (HK.out.a _ (.tail _ (.tail _ (.tail _ (.tail _ (.head _)))))).c4; have c0 := (HK.out.a _ (.tail _ (.tail _ (.tail _ (.head _))))).c0; have c1 := (HK.out.a _ (.tail _ (.tail _ (.tail _ (.head _))))).c1; have c2 := (HK.out.a _ (.tail _ (.tail _ (.tail _ (.head _))))).c2; have c3 := (HK.out.a _ (.tail _ (.tail _ (.tail _ (.head _))))).c3; have c4 := (HK.out.a _ (.tail _ (.tail _ (.tail _ (.head _))))).c4; have row0 := (HK.out.a _ (.tail _ (.tail _ (.head _)))).c0; have row1 := (HK.out.a _ (.tail _ (.tail _ (.head _)))).c1; have row2 := (HK.out.a _ (.tail _ (.tail _ (.head _)))).c2; have row3 := (HK.out.a _ (.tail _ (.tail _ (.head _)))).c3; have row4 := (HK.out.a _ (.tail _ (.tail _ (.head _)))).c4; have qx0 := (HK.out.a _ (.tail _ (.head _))).c0; have qx1 := (HK.out.a _ (.tail _ (.head _))).c1; have qx2 := (HK.out.a _ (.tail _ (.head _))).c2; have qx3 := (HK.out.a _ (.tail _ (.head _))).c3; have qx4 := (HK.out.a _ (.tail _ (.head _))).c4; have qy0 := (HK.out.a _ (.head _)).c0; have qy1 := (HK.out.a _ (.head _)).c1; have qy2 := (HK.out.a _ (.head _)).c2; have qy3 := (HK.out.a _ (.head _)).c3; have qy4 := (HK.out.a _ (.head _)).c4)
                | (go_at_call 34; (with_reducible refine (HQ3.out _ _ (by with_unfolding_all exact HK.out.lay) (by with_unfolding_all exact HK.out.r _ (.tail _ (.tail _ (.head _)))) (by with_unfolding_all exact HK.out.n _ (.tail _ (.tail _ (.head _))))).mono ?_); rintro e wr4 ⟨uwr4, rfl, hu, hb⟩; obtain ⟨pwr4, cwr4, hpwr4, _, _⟩ := hu.form; have hqwr4 : uwr4 = (.slice pwr4 1 cwr4) := hpwr4; subst hqwr4; clear hpwr4; have hltqyqz : wr3.heap.size < wr4.heap.size := Nat.lt_of_lt_of_le (HK.out.lt _ (.head _)) hb.size; have hltqxqz : wr2.heap.size < wr4.heap.size := Nat.lt_of_lt_of_le (HK.out.lt _ (.tail _ (.head _))) hb.size; have hltrowqz : wr1.heap.size < wr4.heap.size := Nat.lt_of_lt_of_le (HK.out.lt _ (.tail _ (.tail _ (.head _)))) hb.size; have hltcqz : wcn.heap.size < wr4.heap.size := Nat.lt_of_lt_of_le (HK.out.lt _ (.tail _ (.tail _ (.tail _ (.head _))))) hb.size; have hltlqz : wb.heap.size < wr4.heap.size := Nat.lt_of_lt_of_le (HK.out.lt _ (.tail _ (.tail _ (.tail _ (.tail _ (.head _)))))) hb.size; have hltsqz : wa.heap.size < wr4.heap.size := Nat.lt_of_lt_of_le (HK.out.lt _ (.tail _ (.tail _ (.tail _ (.tail _ (.tail _ (.head _))))))) hb.size; have hltxqz : w.heap.size < wr4.heap.size := Nat.lt_of_lt_of_le (HK.out.lt _ (.tail _ (.tail _ (.tail _ (.tail _ (.tail _ (.tail _ (.head _)))))))) hb.size; have HK2 := Lib.hid (HK.out.res hb ⟨1, 0, 0, 0, [(m : Int)]⟩ hu); clear HK x0 x1 x2 x3 x4 s0 s1 s2 s3 s4 l0 l1 l2 l3 l4 c0 c1 c2 c3 c4 row0 row1 row2 row3 row4 qx0 qx1 qx2 qx3 qx4 qy0 qy1 qy2 qy3 qy4; have HK := HK2; clear HK2; clear hb hu; have x0 := (HK.out.a _ (.tail _ (.tail _ (.tail _ (.tail _ (.tail _ (.tail _ (.tail _ (.head _))))))))).c0; have x1 := (HK.out.a _ (.tail _ (.tail _ (.tail _ (.tail _ (.tail _ (.tail _ (.tail _ (.head _))))))))).c1; have x2 := (HK.out.a _ (.tail _ (.tail _ (.tail _ (.tail _ (.tail _ (.tail _ (.tail _ (.head _))))))))).c2; have x3 := (HK.out.a _ (.tail _ (.tail _ (.tail _ (.tail _ (.tail _ (.tail _ (.tail _ (.head _))))))))).c3; have x4 := (HK.out.a _ (.tail _ (.tail _ (.tail _ (.tail _ (.tail _ (.tail _ (.tail _ (.head _))))))))).c4; have s0 := (HK.out.a _ (.tail _ (.tail _ (.tail _ (.tail _ (.tail _ (.tail _ (.head _)))))))).c0; have s1 := (HK.out.a _ (.tail _ (.tail _ (.tail _ (.tail _ (.tail _ (.tail _ (.head _)))))))).c1; have s2 := (HK.out.a _ (.tail _ (.tail _ (.tail _ (.tail _ (.tail _ (.tail _ (.head _)))))))).c2; have s3 := (HK.out.a _ (.tail _ (.tail _ (.tail _ (.tail _ (.tail _ (.tail _ (.head _)))))))).c3; have s4 := (HK.out.a _ (.tail _ (.tail _ (.tail _ (.tail _ (.tail _ (.tail _ (.head _)))))))).c4; have l0 := (HK.out.a _ (.tail _ (.tail _ (.tail _ (.tail _ (.tail _ (.head _))))))).c0; have l1 := (HK.out.a _ (.tail _ (.tail _ (.tail _ (.tail _ (.tail _ (.head _))))))).c1; have l2 := (HK.out.a _ (.tail _ (.tail _ (.tail _ (.tail _ (.tail _ (.head _))))))).c2; have l3 := (HK.out.a _ (.tail _ (.tail _ (.tail _ (.tail _ (.tail _ (.head _))))))).c3; have l4 := (HK.out.a _ (.tail _ (.tail _ (.tail _ (.tail _ (.tail _ (.head _))))))).c4; have c0 := (HK.out.a _ (.tail _ (.tail _ (.tail _ (.tail _ (.head _)))))).c0; have c1 := (HK.out.a _ (.tail _ (.tail _ (.tail _ (.tail _ (.head _)))))).c1; have c2 := (HK.out.a _ (.tail _ (.tail _ (.tail _ (.tail _ (.head _)))))).c2; have c3 := (HK.out.a _ (.tail _ (.tail _ (.tail _ (.tail _ (.head _)))))).c3; have c4 := (HK.out.a _ (.tail _ (.tail _ (.tail _ (.tail _ (.head _)))))).c4; have row0 := (HK.out.a _ (.tail _ (.tail _ (.tail _ (.head _))))).c0; have row1 := (HK.out.a _ (.tail _ (.tail _ (.tail _ (.head _))))).c1; have row2 := (HK.out.a _ (.tail _ (.tail _ (.tail _ (.head _))))).c2; have row3 := (HK.out.a _ (.tail _ (.tail _ (.tail _ (.head _))))).c3; have row4 := (HK.out.a _ (.tail _ (.tail _ (.tail _ (.head _))))).c4; have qx0 := (HK.out.a _ (.tail _ (.tail _ (.head _)))).c0; have qx1 := (HK.out.a _ (.tail _ (.tail _ (.head _)))).c1; have qx2 := (HK.out.a _ (.tail _ (.tail _ (.head _)))).c2; have qx3 := (HK.out.a _ (.tail _ (.tail _ (.head _)))).c3; have qx4 := (HK.out.a _ (.tail _ (.tail _ (.head _)))).c4; have qy0 := (HK.out.a _ (.tail _ (.head _))).c0; have qy1 := (HK.out.a _ (.tail _ (.head _))).c1; have qy2 := (HK.out.a _ (.tail _ (.head _))).c2; have qy3 := (HK.out.a _ (.tail _ (.head _))).c3; have qy4 := (HK.out.a _ (.tail _ (.head _))).c4; have qz0 := (HK.out.a _ (.head _)).c0; have qz1 := (HK.out.a _ (.head _)).c1; have qz2 := (HK.out.a _ (.head _)).c2; have qz3 := (HK.out.a _ (.head _)).c3; have qz4 := (HK.out.a _ (.head _)).c4)
                | fail)
              generalize hWq : World.alloc wr4 _ = W0 at HK ⊢
              clear hWq x0 x1 x2 x3 x4 s0 s1 s2 s3 s4 l0 l1 l2 l3 l4 c0 c1 c2 c3 c4 row0 row1 row2 row3 row4 qx0 qx1 qx2 qx3 qx4 qy0 qy1 qy2 qy3 qy4 qz0 qz1 qz2 qz3 qz4
              obtain ⟨bz, oz, hp_qz, hb_qz, hc_qz⟩ := (HK.out.r _ (.head _)).cells (by simp)
              subst hp_qz
              have g_qz : W0.cell? ⟨bz, oz, none⟩ = some (.int .i64 (m : Int)) := by have := hc_qz 0 (by simp); rw [Nat.add_zero] at this; exact this
              clear hc_qz
              obtain ⟨bc, oc, hp_c, hb_c, hc_c⟩ := (HK.out.r _ (.tail _ (.tail _ (.tail _ (.tail _ (.head _)))))).cells (by intro e; have e2 : cz = [] := e; rw [e2] at hjc; simp at hjc)
              subst hp_c
              have g_c : W0.cell? ⟨bc, oc + j, none⟩ = some (.int .i64 cz[j]) := hc_c j hjc
              rw [← show cz.getD j 0 = cz[j] by simp [List.getD_eq_getElem?_getD, hjc], hCv] at g_c
              clear hc_c
              obtain ⟨bx, ox, hp_qx, hb_qx, hc_qx⟩ := (HK.out.r _ (.tail _ (.tail _ (.head _)))).cells (by simp)
              subst hp_qx
              have g_qx : W0.cell? ⟨bx, ox, none⟩ = some (.int .i64 xv) := by have := hc_qx 0 (by simp); rw [Nat.add_zero] at this; exact this
              clear hc_qx
              obtain ⟨b_y, oy, hp_qy, hb_qy, hc_qy⟩ := (HK.out.r _ (.tail _ (.head _))).cells (by simp)
              subst hp_qy
              have g_qy : W0.cell? ⟨b_y, oy, none⟩ = some (.int .i64 yv) := by have := hc_qy 0 (by simp); rw [Nat.add_zero] at this; exact this
              clear hc_qy
              obtain ⟨bl, ol, hp_l, hb_l, hc_l⟩ := (HK.out.r _ (.tail _ (.tail _ (.tail _ (.tail _ (.tail _ (.head _))))))).cells (by intro e; have e2 : lz = [] := e; rw [e2] at hjl; simp at hjl)
              subst hp_l
              have g_l : W0.cell? ⟨bl, ol + j, none⟩ = some (.int .i64 lz[j]) := hc_l j hjl
              rw [← show lz.getD j 0 = lz[j] by simp [List.getD_eq_getElem?_getD, hjl], hLv1] at g_l
              clear hc_l
              have s0 := (HK.out.a _ (.tail _ (.tail _ (.tail _ (.tail _ (.tail _ (.tail _ (.head _)))))))).c0
              have s1 := (HK.out.a _ (.tail _ (.tail _ (.tail _ (.tail _ (.tail _ (.tail _ (.head _)))))))).c1
              have s2 := (HK.out.a _ (.tail _ (.tail _ (.tail _ (.tail _ (.tail _ (.tail _ (.head _)))))))).c2
              have s3 := (HK.out.a _ (.tail _ (.tail _ (.tail _ (.tail _ (.tail _ (.tail _ (.head _)))))))).c3
              have s4 := (HK.out.a _ (.tail _ (.tail _ (.tail _ (.tail _ (.tail _ (.tail _ (.head _)))))))).c4
              have l0 := (HK.out.a _ (.tail _ (.tail _ (.tail _ (.tail _ (.tail _ (.head _))))))).c0
              have l1 := (HK.out.a _ (.tail _ (.tail _ (.tail _ (.tail _ (.tail _ (.head _))))))).c1
              have l2 := (HK.out.a _ (.tail _ (.tail _ (.tail _ (.tail _ (.tail _ (.head _))))))).c2
              have l3 := (HK.out.a _ (.tail _ (.tail _ (.tail _ (.tail _ (.tail _ (.head _))))))).c3
              have l4 := (HK.out.a _ (.tail _ (.tail _ (.tail _ (.tail _ (.tail _ (.head _))))))).c4
              have c0 := (HK.out.a _ (.tail _ (.tail _ (.tail _ (.tail _ (.head _)))))).c0
              have c1 := (HK.out.a _ (.tail _ (.tail _ (.tail _ (.tail _ (.head _)))))).c1
              have c2 := (HK.out.a _ (.tail _ (.tail _ (.tail _ (.tail _ (.head _)))))).c2
              have c3 := (HK.out.a _ (.tail _ (.tail _ (.tail _ (.tail _ (.head _)))))).c3
              have c4 := (HK.out.a _ (.tail _ (.tail _ (.tail _ (.tail _ (.head _)))))).c4
              have qx0 := (HK.out.a _ (.tail _ (.tail _ (.head _)))).c0
              have qx1 := (HK.out.a _ (.tail _ (.tail _ (.head _)))).c1
              have qx2 := (HK.out.a _ (.tail _ (.tail _ (.head _)))).c2
              have qx3 := (HK.out.a _ (.tail _ (.tail _ (.head _)))).c3
              have qx4 := (HK.out.a _ (.tail _ (.tail _ (.head _)))).c4
              have qy0 := (HK.out.a _ (.tail _ (.head _))).c0
              have qy1 := (HK.out.a _ (.tail _ (.head _))).c1
              have qy2 := (HK.out.a _ (.tail _ (.head _))).c2
              have qy3 := (HK.out.a _ (.tail _ (.head _))).c3
              have qy4 := (HK.out.a _ (.tail _ (.head _))).c4
              have qz0 := (HK.out.a _ (.head _)).c0
              have qz1 := (HK.out.a _ (.head _)).c1
              have qz2 := (HK.out.a _ (.head _)).c2
              have qz3 := (HK.out.a _ (.head _)).c3
              have qz4 := (HK.out.a _ (.head _)).c4
              go_wp2_with fail
              go_quiet (fail)
              generalize hW0 : World.drewN W0 _ = W1
              have hd0 : Below W0.heap.size W0 W1 := by rw [← hW0]; exact drewN_below _ _
              have HKn := Lib.hid (HK.out.next hd0)
              have g1_qz : W1.cell? ⟨bz, oz, none⟩ = some (.int .i64 (m : Int)) := (hd0.cell (p := ⟨bz, oz, none⟩) hb_qz).trans g_qz
              have hb1_qz : bz < W1.heap.size := Nat.lt_of_lt_of_le hb_qz hd0.size
              clear g_qz hb_qz
              have g_qz := g1_qz
              have hb_qz := hb1_qz
              clear g1_qz hb1_qz
              have g1_c : W1.cell? ⟨bc, oc + j, none⟩ = some (.int .i64 (m : Int)) := (hd0.cell (p := ⟨bc, oc + j, none⟩) hb_c).trans g_c
              have hb1_c : bc < W1.heap.size := Nat.lt_of_lt_of_le hb_c hd0.size
              clear g_c hb_c
              have g_c := g1_c
              have hb_c := hb1_c
              clear g1_c hb1_c
              have g1_qx : W1.cell? ⟨bx, ox, none⟩ = some (.int .i64 xv) := (hd0.cell (p := ⟨bx, ox, none⟩) hb_qx).trans g_qx
              have hb1_qx : bx < W1.heap.size := Nat.lt_of_lt_of_le hb_qx hd0.size
              clear g_qx hb_qx
              have g_qx := g1_qx
              have hb_qx := hb1_qx
              clear g1_qx hb1_qx
              have g1_qy : W1.cell? ⟨b_y, oy, none⟩ = some (.int .i64 yv) := (hd0.cell (p := ⟨b_y, oy, none⟩) hb_qy).trans g_qy
              have hb1_qy : b_y < W1.heap.size := Nat.lt_of_lt_of_le hb_qy hd0.size
              clear g_qy hb_qy
              have g_qy := g1_qy
              have hb_qy := hb1_qy
              clear g1_qy hb1_qy
              have g1_l : W1.cell? ⟨bl, ol + j, none⟩ = some (.int .i64 yv) := (hd0.cell (p := ⟨bl, ol + j, none⟩) hb_l).trans g_l
              have hb1_l : bl < W1.heap.size := Nat.lt_of_lt_of_le hb_l hd0.size
              clear g_l hb_l
              have g_l := g1_l
              have hb_l := hb1_l
              clear g1_l hb1_l
              clear HK hW0 hd0 s0 s1 s2 s3 s4 l0 l1 l2 l3 l4 c0 c1 c2 c3 c4 qx0 qx1 qx2 qx3 qx4 qy0 qy1 qy2 qy3 qy4 qz0 qz1 qz2 qz3 qz4
              have HK := HKn
              clear HKn
              have s0 := (HK.out.a _ (.tail _ (.tail _ (.tail _ (.tail _ (.tail _ (.tail _ (.head _)))))))).c0
              have s1 := (HK.out.a _ (.tail _ (.tail _ (.tail _ (.tail _ (.tail _ (.tail _ (.head _)))))))).c1
              have s2 := (HK.out.a _ (.tail _ (.tail _ (.tail _ (.tail _ (.tail _ (.tail _ (.head _)))))))).c2
              have s3 := (HK.out.a _ (.tail _ (.tail _ (.tail _ (.tail _ (.tail _ (.tail _ (.head _)))))))).c3
              have s4 := (HK.out.a _ (.tail _ (.tail _ (.tail _ (.tail _ (.tail _ (.tail _ (.head _)))))))).c4
              have l0 := (HK.out.a _ (.tail _ (.tail _ (.tail _ (.tail _ (.tail _ (.head _))))))).c0
              have l1 := (HK.out.a _ (.tail _ (.tail _ (.tail _ (.tail _ (.tail _ (.head _))))))).c1
              have l2 := (HK.out.a _ (.tail _ (.tail _ (.tail _ (.tail _ (.tail _ (.head _))))))).c2
              have l3 := (HK.out.a _ (.tail _ (.tail _ (.tail _ (.tail _ (.tail _ (.head _))))))).c3
              have l4 := (HK.out.a _ (.tail _ (.tail _ (.tail _ (.tail _ (.tail _ (.head _))))))).c4
              have c0 := (HK.out.a _ (.tail _ (.tail _ (.tail _ (.tail _ (.head _)))))).c0
              have c1 := (HK.out.a _ (.tail _ (.tail _ (.tail _ (.tail _ (.head _)))))).c1
              have c2 := (HK.out.a _ (.tail _ (.tail _ (.tail _ (.tail _ (.head _)))))).c2
              have c3 := (HK.out.a _ (.tail _ (.tail _ (.tail _ (.tail _ (.head _)))))).c3
              have c4 := (HK.out.a _ (.tail _ (.tail _ (.tail _ (.tail _ (.head _)))))).c4
              have qx0 := (HK.out.a _ (.tail _ (.tail _ (.head _)))).c0
              have qx1 := (HK.out.a _ (.tail _ (.tail _ (.head _)))).c1
              have qx2 := (HK.out.a _ (.tail _ (.tail _ (.head _)))).c2
              have qx3 := (HK.out.a _ (.tail _ (.tail _ (.head _)))).c3
              have qx4 := (HK.out.a _ (.tail _ (.tail _ (.head _)))).c4
              have qy0 := (HK.out.a _ (.tail _ (.head _))).c0
              have qy1 := (HK.out.a _ (.tail _ (.head _))).c1
              have qy2 := (HK.out.a _ (.tail _ (.head _))).c2
              have qy3 := (HK.out.a _ (.tail _ (.head _))).c3
              have qy4 := (HK.out.a _ (.tail _ (.head _))).c4
              have qz0 := (HK.out.a _ (.head _)).c0
              have qz1 := (HK.out.a _ (.head _)).c1
              have qz2 := (HK.out.a _ (.head _)).c2
              have qz3 := (HK.out.a _ (.head _)).c3
              have qz4 := (HK.out.a _ (.head _)).c4
              go_wp2_with fail
              go_quiet (fail)
              generalize hW1 : World.drewN W1 _ = W2
              have hd1 : Below W1.heap.size W1 W2 := by rw [← hW1]; exact drewN_below _ _
              have HKn := Lib.hid (HK.out.next hd1)
              have g1_qz : W2.cell? ⟨bz, oz, none⟩ = some (.int .i64 (m : Int)) := (hd1.cell (p := ⟨bz, oz, none⟩) hb_qz).trans g_qz
              have hb1_qz : bz < W2.heap.size := Nat.lt_of_lt_of_le hb_qz hd1.size
              clear g_qz hb_qz
              have g_qz := g1_qz
              have hb_qz := hb1_qz
              clear g1_qz hb1_qz
              have g1_c : W2.cell? ⟨bc, oc + j, none⟩ = some (.int .i64 (m : Int)) := (hd1.cell (p := ⟨bc, oc + j, none⟩) hb_c).trans g_c
              have hb1_c : bc < W2.heap.size := Nat.lt_of_lt_of_le hb_c hd1.size
              clear g_c hb_c
              have g_c := g1_c
              have hb_c := hb1_c
              clear g1_c hb1_c
              have g1_qx : W2.cell? ⟨bx, ox, none⟩ = some (.int .i64 xv) := (hd1.cell (p := ⟨bx, ox, none⟩) hb_qx).trans g_qx
              have hb1_qx : bx < W2.heap.size := Nat.lt_of_lt_of_le hb_qx hd1.size
              clear g_qx hb_qx
              have g_qx := g1_qx
              have hb_qx := hb1_qx
              clear g1_qx hb1_qx
              have g1_qy : W2.cell? ⟨b_y, oy, none⟩ = some (.int .i64 yv) := (hd1.cell (p := ⟨b_y, oy, none⟩) hb_qy).trans g_qy
              have hb1_qy : b_y < W2.heap.size := Nat.lt_of_lt_of_le hb_qy hd1.size
              clear g_qy hb_qy
              have g_qy := g1_qy
              have hb_qy := hb1_qy
              clear g1_qy hb1_qy
              have g1_l : W2.cell? ⟨bl, ol + j, none⟩ = some (.int .i64 yv) := (hd1.cell (p := ⟨bl, ol + j, none⟩) hb_l).trans g_l
              have hb1_l : bl < W2.heap.size := Nat.lt_of_lt_of_le hb_l hd1.size
              clear g_l hb_l
              have g_l := g1_l
              have hb_l := hb1_l
              clear g1_l hb1_l
              clear HK hW1 hd1 s0 s1 s2 s3 s4 l0 l1 l2 l3 l4 c0 c1 c2 c3 c4 qx0 qx1 qx2 qx3 qx4 qy0 qy1 qy2 qy3 qy4 qz0 qz1 qz2 qz3 qz4
              have HK := HKn
              clear HKn
              have s0 := (HK.out.a _ (.tail _ (.tail _ (.tail _ (.tail _ (.tail _ (.tail _ (.head _)))))))).c0
              have s1 := (HK.out.a _ (.tail _ (.tail _ (.tail _ (.tail _ (.tail _ (.tail _ (.head _)))))))).c1
              have s2 := (HK.out.a _ (.tail _ (.tail _ (.tail _ (.tail _ (.tail _ (.tail _ (.head _)))))))).c2
              have s3 := (HK.out.a _ (.tail _ (.tail _ (.tail _ (.tail _ (.tail _ (.tail _ (.head _)))))))).c3
              have s4 := (HK.out.a _ (.tail _ (.tail _ (.tail _ (.tail _ (.tail _ (.tail _ (.head _)))))))).c4
              have l0 := (HK.out.a _ (.tail _ (.tail _ (.tail _ (.tail _ (.tail _ (.head _))))))).c0
              have l1 := (HK.out.a _ (.tail _ (.tail _ (.tail _ (.tail _ (.tail _ (.head _))))))).c1
              have l2 := (HK.out.a _ (.tail _ (.tail _ (.tail _ (.tail _ (.tail _ (.head _))))))).c2
              have l3 := (HK.out.a _ (.tail _ (.tail _ (.tail _ (.tail _ (.tail _ (.head _))))))).c3
              have l4 := (HK.out.a _ (.tail _ (.tail _ (.tail _ (.tail _ (.tail _ (.head _))))))).c4
              have c0 := (HK.out.a _ (.tail _ (.tail _ (.tail _ (.tail _ (.head _)))))).c0
              have c1 := (HK.out.a _ (.tail _ (.tail _ (.tail _ (.tail _ (.head _)))))).c1
              have c2 := (HK.out.a _ (.tail _ (.tail _ (.tail _ (.tail _ (.head _)))))).c2
              have c3 := (HK.out.a _ (.tail _ (.tail _ (.tail _ (.tail _ (.head _)))))).c3
              have c4 := (HK.out.a _ (.tail _ (.tail _ (.tail _ (.tail _ (.head _)))))).c4
              have qx0 := (HK.out.a _ (.tail _ (.tail _ (.head _)))).c0
              have qx1 := (HK.out.a _ (.tail _ (.tail _ (.head _)))).c1
              have qx2 := (HK.out.a _ (.tail _ (.tail _ (.head _)))).c2
              have qx3 := (HK.out.a _ (.tail _ (.tail _ (.head _)))).c3
              have qx4 := (HK.out.a _ (.tail _ (.tail _ (.head _)))).c4
              have qy0 := (HK.out.a _ (.tail _ (.head _))).c0
              have qy1 := (HK.out.a _ (.tail _ (.head _))).c1
              have qy2 := (HK.out.a _ (.tail _ (.head _))).c2
              have qy3 := (HK.out.a _ (.tail _ (.head _))).c3
              have qy4 := (HK.out.a _ (.tail _ (.head _))).c4
              have qz0 := (HK.out.a _ (.head _)).c0
              have qz1 := (HK.out.a _ (.head _)).c1
              have qz2 := (HK.out.a _ (.head _)).c2
              have qz3 := (HK.out.a _ (.head _)).c3
              have qz4 := (HK.out.a _ (.head _)).c4
              go_wp2_with fail
              go_quiet (fail)
              generalize hW2 : World.drewN W2 _ = W3
              have hd2 : Below W2.heap.size W2 W3 := by rw [← hW2]; exact drewN_below _ _
              have HKn := Lib.hid (HK.out.next hd2)
              have g1_qz : W3.cell? ⟨bz, oz, none⟩ = some (.int .i64 (m : Int)) := (hd2.cell (p := ⟨bz, oz, none⟩) hb_qz).trans g_qz
              have hb1_qz : bz < W3.heap.size := Nat.lt_of_lt_of_le hb_qz hd2.size
              clear g_qz hb_qz
              have g_qz := g1_qz
              have hb_qz := hb1_qz
              clear g1_qz hb1_qz
              have g1_c : W3.cell? ⟨bc, oc + j, none⟩ = some (.int .i64 (m : Int)) := (hd2.cell (p := ⟨bc, oc + j, none⟩) hb_c).trans g_c
              have hb1_c : bc < W3.heap.size := Nat.lt_of_lt_of_le hb_c hd2.size
              clear g_c hb_c
              have g_c := g1_c
              have hb_c := hb1_c
              clear g1_c hb1_c
              have g1_qx : W3.cell? ⟨bx, ox, none⟩ = some (.int .i64 xv) := (hd2.cell (p := ⟨bx, ox, none⟩) hb_qx).trans g_qx
              have hb1_qx : bx < W3.heap.size := Nat.lt_of_lt_of_le hb_qx hd2.size
              clear g_qx hb_qx
              have g_qx := g1_qx
              have hb_qx := hb1_qx
              clear g1_qx hb1_qx
              have g1_qy : W3.cell? ⟨b_y, oy, none⟩ = some (.int .i64 yv) := (hd2.cell (p := ⟨b_y, oy, none⟩) hb_qy).trans g_qy
              have hb1_qy : b_y < W3.heap.size := Nat.lt_of_lt_of_le hb_qy hd2.size
              clear g_qy hb_qy
              have g_qy := g1_qy
              have hb_qy := hb1_qy
              clear g1_qy hb1_qy
              have g1_l : W3.cell? ⟨bl, ol + j, none⟩ = some (.int .i64 yv) := (hd2.cell (p := ⟨bl, ol + j, none⟩) hb_l).trans g_l
              have hb1_l : bl < W3.heap.size := Nat.lt_of_lt_of_le hb_l hd2.size
              clear g_l hb_l
              have g_l := g1_l
              have hb_l := hb1_l
              clear g1_l hb1_l
              clear HK hW2 hd2 s0 s1 s2 s3 s4 l0 l1 l2 l3 l4 c0 c1 c2 c3 c4 qx0 qx1 qx2 qx3 qx4 qy0 qy1 qy2 qy3 qy4 qz0 qz1 qz2 qz3 qz4
              have HK := HKn
              clear HKn
              have s0 := (HK.out.a _ (.tail _ (.tail _ (.tail _ (.tail _ (.tail _ (.tail _ (.head _)))))))).c0
              have s1 := (HK.out.a _ (.tail _ (.tail _ (.tail _ (.tail _ (.tail _ (.tail _ (.head _)))))))).c1
              have s2 := (HK.out.a _ (.tail _ (.tail _ (.tail _ (.tail _ (.tail _ (.tail _ (.head _)))))))).c2
              have s3 := (HK.out.a _ (.tail _ (.tail _ (.tail _ (.tail _ (.tail _ (.tail _ (.head _)))))))).c3
              have s4 := (HK.out.a _ (.tail _ (.tail _ (.tail _ (.tail _ (.tail _ (.tail _ (.head _)))))))).c4
              have l0 := (HK.out.a _ (.tail _ (.tail _ (.tail _ (.tail _ (.tail _ (.head _))))))).c0
              have l1 := (HK.out.a _ (.tail _ (.tail _ (.tail _ (.tail _ (.tail _ (.head _))))))).c1
              have l2 := (HK.out.a _ (.tail _ (.tail _ (.tail _ (.tail _ (.tail _ (.head _))))))).c2
              have l3 := (HK.out.a _ (.tail _ (.tail _ (.tail _ (.tail _ (.tail _ (.head _))))))).c3
              have l4 := (HK.out.a _ (.tail _ (.tail _ (.tail _ (.tail _ (.tail _ (.head _))))))).c4
              have c0 := (HK.out.a _ (.tail _ (.tail _ (.tail _ (.tail _ (.head _)))))).c0
              have c1 := (HK.out.a _ (.tail _ (.tail _ (.tail _ (.tail _ (.head _)))))).c1
              have c2 := (HK.out.a _ (.tail _ (.tail _ (.tail _ (.tail _ (.head _)))))).c2
              have c3 := (HK.out.a _ (.tail _ (.tail _ (.tail _ (.tail _ (.head _)))))).c3
              have c4 := (HK.out.a _ (.tail _ (.tail _ (.tail _ (.tail _ (.head _)))))).c4
              have qx0 := (HK.out.a _ (.tail _ (.tail _ (.head _)))).c0
              have qx1 := (HK.out.a _ (.tail _ (.tail _ (.head _)))).c1
              have qx2 := (HK.out.a _ (.tail _ (.tail _ (.head _)))).c2
              have qx3 := (HK.out.a _ (.tail _ (.tail _ (.head _)))).c3
              have qx4 := (HK.out.a _ (.tail _ (.tail _ (.head _)))).c4
              have qy0 := (HK.out.a _ (.tail _ (.head _))).c0
              have qy1 := (HK.out.a _ (.tail _ (.head _))).c1
              have qy2 := (HK.out.a _ (.tail _ (.head _))).c2
              have qy3 := (HK.out.a _ (.tail _ (.head _))).c3
              have qy4 := (HK.out.a _ (.tail _ (.head _))).c4
              have qz0 := (HK.out.a _ (.head _)).c0
              have qz1 := (HK.out.a _ (.head _)).c1
              have qz2 := (HK.out.a _ (.head _)).c2
              have qz3 := (HK.out.a _ (.head _)).c3
              have qz4 := (HK.out.a _ (.head _)).c4
              go_wp2_with fail
              go_roundg g2
              case measure => omega
              case rel => exact ⟨j + 1, _, _, by omega, rfl, rfl, by go_num, HFn.out, HGn.out, HK.out.drop (fun b m => by simp only [List.mem_cons, List.not_mem_nil, or_false] at m ⊢; rcases m with rfl | rfl | rfl | rfl <;> simp)⟩
          · by_cases he1 : E1 = 0
            · skip
              have hs12 := HS12.out hs
              have h12 : (sm1 row).2 = 12 := hsm.resolve_left h20
              have hsv : smV (vecA 1 row) = ⟨0, 0, 0, 0, []⟩ := orNo_no (by rw [(sm_vec hGr2.out rfl).1]; exact h20)
              rw [hsv, h12] at HQ1
              have HFn : Hid ((12 : Int) = feL (cs.take (j + 1))) := by unfold Hid; rw [hft, h12, if_pos he1]
              subst hs12 he1
              clear vR h12 h20 hft hSv hsm hs hsv
              as_aux_lemma =>
                go_wp2_with (first
                  | (go_at_call 22; (with_reducible refine (HVc.out _ (HRd.out _ _ (by with_unfolding_all exact HK.out.r _ (.tail _ (.tail _ (.tail _ (.head _))))))).mono ?_); rintro e wr1 ⟨uwr1, rfl, hu, hb⟩; obtain ⟨pwr1, cwr1, hpwr1, _, _⟩ := hu.form; have hqwr1 : uwr1 = (.slice pwr1 m cwr1) := (by rw [hpwr1, HIl.out]); subst hqwr1; clear hpwr1; have hltcrow : wcn.heap.size < wr1.heap.size := Nat.lt_of_lt_of_le (HK.out.lt _ (.head _)) hb.size; have hltlrow : wb.heap.size < wr1.heap.size := Nat.lt_of_lt_of_le (HK.out.lt _ (.tail _ (.head _))) hb.size; have hltsrow : wa.heap.size < wr1.heap.size := Nat.lt_of_lt_of_le (HK.out.lt _ (.tail _ (.tail _ (.head _)))) hb.size; have hltxrow : w.heap.size < wr1.heap.size := Nat.lt_of_lt_of_le (HK.out.lt _ (.tail _ (.tail _ (.tail _ (.head _))))) hb.size; have HK2 := Lib.hid (HK.out.res hb ⟨1, 1, (m : Int), 0, row⟩ hu); clear HK x0 x1 x2 x3 x4 s0 s1 s2 s3 s4 l0 l1 l2 l3 l4 c0 c1 c2 c3 c4; have HK := HK2; clear HK2; clear hb hu; have x0 := (HK.out.a _ (.tail _ (.tail _ (.tail _ (.tail _ (.head _)))))).c0; have x1 := (HK.out.a _ (.tail _ (.tail _ (.tail _ (.tail _ (.head _)))))).c1; have x2 := (HK.out.a _ (.tail _ (.tail _ (.tail _ (.tail _ (.head _)))))).c2; have x3 := (HK.out.a _ (.tail _ (.tail _ (.tail _ (.tail _ (.head _)))))).c3; have x4 := (HK.out.a _ (.tail _ (.tail _ (.tail _ (.tail _ (.head _)))))).c4; have s0 := (HK.out.a _ (.tail _ (.tail _ (.tail _ (.head _))))).c0; have s1 := (HK.out.a _ (.tail _ (.tail _ (.tail _ (.head _))))).c1; have s2 := (HK.out.a _ (.tail _ (.tail _ (.tail _ (.head _))))).c2; have s3 := (HK.out.a _ (.tail _ (.tail _ (.tail _ (.head _))))).c3; have s4 := (HK.out.a _ (.tail _ (.tail _ (.tail _ (.head _))))).c4; have l0 := (HK.out.a _ (.tail _ (.tail _ (.head _)))).c0; have l1 := (HK.out.a _ (.tail _ (.tail _ (.head _)))).c1; have l2 := (HK.out.a _ (.tail _ (.tail _ (.head _)))).c2; have l3 := (HK.out.a _ (.tail _ (.tail _ (.head _)))).c3; have l4 := (HK.out.a _ (.tail _ (.tail _ (.head _)))).c4; have c0 := (HK.out.a _ (.tail _ (.head _))).c0; have c1 := (HK.out.a _ (.tail _ (.head _))).c1; have c2 := (HK.out.a _ (.tail _ (.head _))).c2; have c3 := (HK.out.a _ (.tail _ (.head _))).c3; have c4 := (HK.out.a _ (.tail _ (.head _))).c4; have row0 := (HK.out.a _ (.head _)).c0; have row1 := (HK.out.a _ (.head _)).c1; have row2 := (HK.out.a _ (.head _)).c2; have row3 := (HK.out.a _ (.head _)).c3; have row4 := (HK.out.a _ (.head _)).c4)
                  | (go_at_call 26; (with_reducible refine (HQ1.out _ _ (by with_unfolding_all exact HK.out.lay) (by with_unfolding_all exact HK.out.r _ (.head _)) (by with_unfolding_all exact HK.out.n _ (.head _))).mono ?_); rintro e wr2 ⟨uwr2, rfl, hu, hb⟩; obtain ⟨pwr2, cwr2, hpwr2, _, _⟩ := hu.form; have hqwr2 : uwr2 = (.slice pwr2 0 cwr2) := hpwr2; subst hqwr2; clear hpwr2; have hltrowqx : wr1.heap.size < wr2.heap.size := Nat.lt_of_lt_of_le (HK.out.lt _ (.head _)) hb.size; have hltcqx : wcn.heap.size < wr2.heap.size := Nat.lt_of_lt_of_le (HK.out.lt _ (.tail _ (.head _))) hb.size; have hltlqx : wb.heap.size < wr2.heap.size := Nat.lt_of_lt_of_le (HK.out.lt _ (.tail _ (.tail _ (.head _)))) hb.size; have hltsqx : wa.heap.size < wr2.heap.size := Nat.lt_of_lt_of_le (HK.out.lt _ (.tail _ (.tail _ (.tail _ (.head _))))) hb.size; have hltxqx : w.heap.size < wr2.heap.size := Nat.lt_of_lt_of_le (HK.out.lt _ (.tail _ (.tail _ (.tail _ (.tail _ (.head _)))))) hb.size; have HK2 := Lib.hid (HK.out.res hb ⟨0, 0, 0, 0, []⟩ hu); clear HK x0 x1 x2 x3 x4 s0 s1 s2 s3 s4 l0 l1 l2 l3 l4 c0 c1 c2 c3 c4 row0 row1 row2 row3 row4; have HK := HK2; clear HK2; clear hb hu; have x0 := (HK.out.a _ (.tail _ (.tail _ (.tail _ (.tail _ (.tail _ (.head _))))))).c0; have x1 := (HK.out.a _ (.tail _ (.tail _ (.tail _ (.tail _ (.tail _ (.head _))))))).c1; have x2 := (HK.out.a _ (.tail _ (.tail _ (.tail _ (.tail _ (.tail _ (.head _))))))).c2; have x3 := (HK.out.a _ (.tail _ (.tail _ (.tail _ (.tail _ (.tail _ (.head _))))))).c3; have x4 := (HK.out.a _ (.tail _ (.tail _ (.tail _ (.tail _ (.tail _ (.head _))))))).c4; have s0 := (HK.out.a _ (.tail _ (.tail _ (.tail _ (.tail _ (.head _)))))).c0; have s1 := (HK.out.a _ (.tail _ (.tail _ (.tail _ (.tail _ (.head _)))))).c1; have s2 := (HK.out.a _ (.tail _ (.tail _ (.tail _ (.tail _ (.head _)))))).c2; have s3 := (HK.out.a _ (.tail _ (.tail _ (.tail _ (.tail _ (.head _)))))).c3; have s4 := (HK.out.a _ (.tail _ (.tail _ (.tail _ (.tail _ (.head _)))))).c4; have l0 := (HK.out.a _ (.tail _ (.tail _ (.tail _ (.head _))))).c0; have l1 := (HK.out.a _ (.tail _ (.tail _ (.tail _ (.head _))))).c1; have l2 := (HK.out.a _ (.tail _ (.tail _ (.tail _ (.head _))))).c2; have l3 := (HK.out.a _ (.tail _ (.tail _ (.tail _ (.head _))))).c3; have l4 := (HK.out.a _ (.tail _ (.tail _ (.tail _ (.head _))))).c4; have c0 := (HK.out.a _ (.tail _ (.tail _ (.head _)))).c0; have c1 := (HK.out.a _ (.tail _ (.tail _ (.head _)))).c1; have c2 := (HK.out.a _ (.tail _ (.tail _ (.head _)))).c2; have c3 := (HK.out.a _ (.tail _ (.tail _ (.head _)))).c3; have c4 := (HK.out.a _ (.tail _ (.tail _ (.head _)))).c4; have row0 := (HK.out.a _ (.tail _ (.head _))).c0; have row1 := (HK.out.a _ (.tail _ (.head _))).c1; have row2 := (HK.out.a _ (.tail _ (.head _))).c2; have row3 := (HK.out.a _ (.tail _ (.head _))).c3; have row4 := (HK.out.a _ (.tail _ (.head _))).c4; have qx0 := (HK.out.a _ (.head _)).c0; have qx1 := (HK.out.a _ (.head _)).c1; have qx2 := (HK.out.a _ (.head _)).c2; have qx3 := (HK.out.a _ (.head _)).c3; have qx4 := (HK.out.a _ (.head _)).c4)
                  | (go_at_call 30; (with_reducible refine (HQ2.out _ _ (by with_unfolding_all exact HK.out.lay) (by with_unfolding_all exact HK.out.r _ (.tail _ (.head _))) (by with_unfolding_all exact HK.out.n _ (.tail _ (.head _)))).mono ?_); rintro e wr3 ⟨uwr3, rfl, hu, hb⟩; obtain ⟨pwr3, cwr3, hpwr3, _, _⟩ := hu.form; have hqwr3 : uwr3 = (.slice pwr3 1 cwr3) := hpwr3; subst hqwr3; clear hpwr3; have hltqxqy : wr2.heap.size < wr3.heap.size := Nat.lt_of_lt_of_le (HK.out.lt _ (.head _)) hb.size; have hltrowqy : wr1.heap.size < wr3.heap.size := Nat.lt_of_lt_of_le (HK.out.lt _ (.tail _ (.head _))) hb.size; have hltcqy : wcn.heap.size < wr3.heap.size := Nat.lt_of_lt_of_le (HK.out.lt _ (.tail _ (.tail _ (.head _)))) hb.size; have hltlqy : wb.heap.size < wr3.heap.size := Nat.lt_of_lt_of_le (HK.out.lt _ (.tail _ (.tail _ (.tail _ (.head _))))) hb.size; have hltsqy : wa.heap.size < wr3.heap.size := Nat.lt_of_lt_of_le (HK.out.lt _ (.tail _ (.tail _ (.tail _ (.tail _ (.head _)))))) hb.size; have hltxqy : w.heap.size < wr3.heap.size := Nat.lt_of_lt_of_le (HK.out.lt _ (.tail _ (.tail _ (.tail _ (.tail _ (.tail _ (.head _))))))) hb.size; have HK2 := Lib.hid (HK.out.res hb ⟨1, 0, 0, 0, [yv]⟩ hu); clear HK x0 x1 x2 x3 x4 s0 s1 s2 s3 s4 l0 l1 l2 l3 l4 c0 c1 c2 c3 c4 row0 row1 row2 row3 row4 qx0 qx1 qx2 qx3 qx4; have HK := HK2; clear HK2; clear hb hu; have x0 := (HK.out.a _ (.tail _ (.tail _ (.tail _ (.tail _ (.tail _ (.tail _ (.head _)))))))).c0; have x1 := (HK.out.a _ (.tail _ (.tail _ (.tail _ (.tail _ (.tail _ (.tail _ (.head _)))))))).c1; have x2 := (HK.out.a _ (.tail _ (.tail _ (.tail _ (.tail _ (.tail _ (.tail _ (.head _)))))))).c2; have x3 := (HK.out.a _ (.tail _ (.tail _ (.tail _ (.tail _ (.tail _ (.tail _ (.head _)))))))).c3; have x4 := (HK.out.a _ (.tail _ (.tail _ (.tail _ (.tail _ (.tail _ (.tail _ (.head _)))))))).c4; have s0 := (HK.out.a _ (.tail _ (.tail _ (.tail _ (.tail _ (.tail _ (.head _))))))).c0; have s1 := (HK.out.a _ (.tail _ (.tail _ (.tail _ (.tail _ (.tail _ (.head _))))))).c1; have s2 := (HK.out.a _ (.tail _ (.tail _ (.tail _ (.tail _ (.tail _ (.head _))))))).c2; have s3 := (HK.out.a _ (.tail _ (.tail _ (.tail _ (.tail _ (.tail _ (.head _))))))).c3; have s4 := (HK.out.a _ (.tail _ (.tail _ (.tail _ (.tail _ (.tail _ (.head _))))))).c4; have l0 := (HK.out.a _ (.tail _ (.tail _ (.tail _ (.tail _ (.head _)))))).c0; have l1 := (HK.out.a _ (.tail _ (.tail _ (.tail _ (.tail _ (.head _)))))).c1; have l2 := (HK.out.a _ (.tail _ (.tail _ (.tail _ (.tail _ (.head _)))))).c2; have l3 := (HK.out.a _ (.tail _ (.tail _ (.tail _ (.tail _ (.head _)))))).c3; have l4 := (HK.out.a _ (.tail _ (.tail _ (.tail _ (.tail _ (.head _)))))).c4; have c0 := (HK.out.a _ (.tail _ (.tail _ (.tail _ (.head _))))).c0; have c1 := (HK.out.a _ (.tail _ (.tail _ (.tail _ (.head _))))).c1; have c2 := (HK.out.a _ (.tail _ (.tail _ (.tail _ (.head _))))).c2; have c3 := (HK.out.a _ (.tail _ (.tail _ (.tail _ (.head _))))).c3; have c4 := (HK.out.a _ (.tail _ (.tail _ (.tail _ (.head _))))).c4; have row0 := (HK.out.a _ (.tail _ (.tail _ (.head _)))).c0; have row1 := (HK.out.a _ (.tail _ (.tail _ (.head _)))).c1; have row2 := (HK.out.a _ (.tail _ (.tail _ (.head _)))).c2; have row3 := (HK.out.a _ (.tail _ (.tail _ (.head _)))).c3; have row4 := (HK.out.a _ (.tail _ (.tail _ (.head _)))).c4; have qx0 := (HK.out.a _ (.tail _ (.head _))).c0; have qx1 := (HK.out.a _ (.tail _ (.head _))).c1; have qx2 := (HK.out.a _ (.tail _ (.head _))).c2; have qx3 := (HK.out.a _ (.tail _ (.head _))).c3; have qx4 := (HK.out.a _ (.tail _ (.head _))).c4; have qy0 := (HK.out.a _ (.head _)).c0; have qy1 := (HK.out.a _ (.head _)).c1; have qy2 := (HK.out.a _ (.head _)).c2; have qy3 := (HK.out.a _ (.head _)).c3; have qy4 := (HK.out.a _ (.head _)).c4)
                  | (go_at_call 34; (with_reducible refine (HQ3.out _ _ (by with_unfolding_all exact HK.out.lay) (by with_unfolding_all exact HK.out.r _ (.tail _ (.tail _ (.head _)))) (by with_unfolding_all exact HK.out.n _ (.tail _ (.tail _ (.head _))))).mono ?_); rintro e wr4 ⟨uwr4, rfl, hu, hb⟩; obtain ⟨pwr4, cwr4, hpwr4, _, _⟩ := hu.form; have hqwr4 : uwr4 = (.slice pwr4 1 cwr4) := hpwr4; subst hqwr4; clear hpwr4; have hltqyqz : wr3.heap.size < wr4.heap.size := Nat.lt_of_lt_of_le (HK.out.lt _ (.head _)) hb.size; have hltqxqz : wr2.heap.size < wr4.heap.size := Nat.lt_of_lt_of_le (HK.out.lt _ (.tail _ (.head _))) hb.size; have hltrowqz : wr1.heap.size < wr4.heap.size := Nat.lt_of_lt_of_le (HK.out.lt _ (.tail _ (.tail _ (.head _)))) hb.size; have hltcqz : wcn.heap.size < wr4.heap.size := Nat.lt_of_lt_of_le (HK.out.lt _ (.tail _ (.tail _ (.tail _ (.head _))))) hb.size; have hltlqz : wb.heap.size < wr4.heap.size := Nat.lt_of_lt_of_le (HK.out.lt _ (.tail _ (.tail _ (.tail _ (.tail _ (.head _)))))) hb.size; have hltsqz : wa.heap.size < wr4.heap.size := Nat.lt_of_lt_of_le (HK.out.lt _ (.tail _ (.tail _ (.tail _ (.tail _ (.tail _ (.head _))))))) hb.size; have hltxqz : w.heap.size < wr4.heap.size := Nat.lt_of_lt_of_le (HK.out.lt _ (.tail _ (.tail _ (.tail _ (.tail _ (.tail _ (.tail _ (.head _)))))))) hb.size; have HK2 := Lib.hid (HK.out.res hb ⟨1, 0, 0, 0, [(m : Int)]⟩ hu); clear HK x0 x1 x2 x3 x4 s0 s1 s2 s3 s4 l0 l1 l2 l3 l4 c0 c1 c2 c3 c4 row0 row1 row2 row3 row4 qx0 qx1 qx2 qx3 qx4 qy0 qy1 qy2 qy3 qy4; have HK := HK2; clear HK2; clear hb hu; have x0 := (HK.out.a _ (.tail _ (.tail _ (.tail _ (.tail _ (.tail _ (.tail _ (.tail _ (.head _))))))))).c0; have x1 := (HK.out.a _ (.tail _ (.tail _ (.tail _ (.tail _ (.tail _ (.tail _ (.tail _ (.head _))))))))).c1; have x2 := (HK.out.a _ (.tail _ (.tail _ (.tail _ (.tail _ (.tail _ (.tail _ (.tail _ (.head _))))))))).c2; have x3 := (HK.out.a _ (.tail _ (.tail _ (.tail _ (.tail _ (.tail _ (.tail _ (.tail _ (.head _))))))))).c3; have x4 := (HK.out.a _ (.tail _ (.tail _ (.tail _ (.tail _ (.tail _ (.tail _ (.tail _ (.head _))))))))).c4; have s0 := (HK.out.a _ (.tail _ (.tail _ (.tail _ (.tail _ (.tail _ (.tail _ (.head _)))))))).c0; have s1 := (HK.out.a _ (.tail _ (.tail _ (.tail _ (.tail _ (.tail _ (.tail _ (.head _)))))))).c1; have s2 := (HK.out.a _ (.tail _ (.tail _ (.tail _ (.tail _ (.tail _ (.tail _ (.head _)))))))).c2; have s3 := (HK.out.a _ (.tail _ (.tail _ (.tail _ (.tail _ (.tail _ (.tail _ (.head _)))))))).c3; have s4 := (HK.out.a _ (.tail _ (.tail _ (.tail _ (.tail _ (.tail _ (.tail _ (.head _)))))))).c4; have l0 := (HK.out.a _ (.tail _ (.tail _ (.tail _ (.tail _ (.tail _ (.head _))))))).c0; have l1 := (HK.out.a _ (.tail _ (.tail _ (.tail _ (.tail _ (.tail _ (.head _))))))).c1; have l2 := (HK.out.a _ (.tail _ (.tail _ (.tail _ (.tail _ (.tail _ (.head _))))))).c2; have l3 := (HK.out.a _ (.tail _ (.tail _ (.tail _ (.tail _ (.tail _ (.head _))))))).c3; have l4 := (HK.out.a _ (.tail _ (.tail _ (.tail _ (.tail _ (.tail _ (.head _))))))).c4; have c0 := (HK.out.a _ (.tail _ (.tail _ (.tail _ (.tail _ (.head _)))))).c0; have c1 := (HK.out.a _ (.tail _ (.tail _ (.tail _ (.tail _ (.head _)))))).c1; have c2 := (HK.out.a _ (.tail _ (.tail _ (.tail _ (.tail _ (.head _)))))).c2; have c3 := (HK.out.a _ (.tail _ (.tail _ (.tail _ (.tail _ (.head _)))))).c3; have c4 := (HK.out.a _ (.tail _ (.tail _ (.tail _ (.tail _ (.head _)))))).c4; have row0 := (HK.out.a _ (.tail _ (.tail _ (.tail _ (.head _))))).c0; have row1 := (HK.out.a _ (.tail _ (.tail _ (.tail _ (.head _))))).c1; have row2 := (HK.out.a _ (.tail _ (.tail _ (.tail _ (.head _))))).c2; have row3 := (HK.out.a _ (.tail _ (.tail _ (.tail _ (.head _))))).c3; have row4 := (HK.out.a _ (.tail _ (.tail _ (.tail _ (.head _))))).c4; have qx0 := (HK.out.a _ (.tail _ (.tail _ (.head _)))).c0; have qx1 := (HK.out.a _ (.tail _ (.tail _ (.head _)))).c1; have qx2 := (HK.out.a _ (.tail _ (.tail _ (.head _)))).c2; have qx3 := (HK.out.a _ (.tail _ (.tail _ (.head _)))).c3; have qx4 := (HK.out.a _ (.tail _ (.tail _ (.head _)))).c4; have qy0 := (HK.out.a _ (.tail _ (.head _))).c0; have qy1 := (HK.out.a _ (.tail _ (.head _))).c1; have qy2 := (HK.out.a _ (.tail _ (.head _))).c2; have qy3 := (HK.out.a _ (.tail _ (.head _))).c3; have qy4 := (HK.out.a _ (.tail _ (.head _))).c4; have qz0 := (HK.out.a _ (.head _)).c0; have qz1 := (HK.out.a _ (.head _)).c1; have qz2 := (HK.out.a _ (.head _)).c2; have qz3 := (HK.out.a _ (.head _)).c3; have qz4 := (HK.out.a _ (.head _)).c4)
                  | fail)
                generalize hWq : World.alloc wr4 _ = W0 at HK ⊢
                clear hWq x0 x1 x2 x3 x4 s0 s1 s2 s3 s4 l0 l1 l2 l3 l4 c0 c1 c2 c3 c4 row0 row1 row2 row3 row4 qx0 qx1 qx2 qx3 qx4 qy0 qy1 qy2 qy3 qy4 qz0 qz1 qz2 qz3 qz4
                obtain ⟨bz, oz, hp_qz, hb_qz, hc_qz⟩ := (HK.out.r _ (.head _)).cells (by simp)
                subst hp_qz
                have g_qz : W0.cell? ⟨bz, oz, none⟩ = some (.int .i64 (m : Int)) := by have := hc_qz 0 (by simp); rw [Nat.add_zero] at this; exact this
                clear hc_qz
                obtain ⟨bc, oc, hp_c, hb_c, hc_c⟩ := (HK.out.r _ (.tail _ (.tail _ (.tail _ (.tail _ (.head _)))))).cells (by intro e; have e2 : cz = [] := e; rw [e2] at hjc; simp at hjc)
                subst hp_c
                have g_c : W0.cell? ⟨bc, oc + j, none⟩ = some (.int .i64 cz[j]) := hc_c j hjc
                rw [← show cz.getD j 0 = cz[j] by simp [List.getD_eq_getElem?_getD, hjc], hCv] at g_c
                clear hc_c
                obtain ⟨b_y, oy, hp_qy, hb_qy, hc_qy⟩ := (HK.out.r _ (.tail _ (.head _))).cells (by simp)
                subst hp_qy
                have g_qy : W0.cell? ⟨b_y, oy, none⟩ = some (.int .i64 yv) := by have := hc_qy 0 (by simp); rw [Nat.add_zero] at this; exact this
                clear hc_qy
                obtain ⟨bl, ol, hp_l, hb_l, hc_l⟩ := (HK.out.r _ (.tail _ (.tail _ (.tail _ (.tail _ (.tail _ (.head _))))))).cells (by intro e; have e2 : lz = [] := e; rw [e2] at hjl; simp at hjl)
                subst hp_l
                have g_l : W0.cell? ⟨bl, ol + j, none⟩ = some (.int .i64 lz[j]) := hc_l j hjl
                rw [← show lz.getD j 0 = lz[j] by simp [List.getD_eq_getElem?_getD, hjl], hLv1] at g_l
                clear hc_l
                have s0 := (HK.out.a _ (.tail _ (.tail _ (.tail _ (.tail _ (.tail _ (.tail _ (.head _)))))))).c0
                have s1 := (HK.out.a _ (.tail _ (.tail _ (.tail _ (.tail _ (.tail _ (.tail _ (.head _)))))))).c1
                have s2 := (HK.out.a _ (.tail _ (.tail _ (.tail _ (.tail _ (.tail _ (.tail _ (.head _)))))))).c2
                have s3 := (HK.out.a _ (.tail _ (.tail _ (.tail _ (.tail _ (.tail _ (.tail _ (.head _)))))))).c3
                have s4 := (HK.out.a _ (.tail _ (.tail _ (.tail _ (.tail _ (.tail _ (.tail _ (.head _)))))))).c4
                have l0 := (HK.out.a _ (.tail _ (.tail _ (.tail _ (.tail _ (.tail _ (.head _))))))).c0
                have l1 := (HK.out.a _ (.tail _ (.tail _ (.tail _ (.tail _ (.tail _ (.head _))))))).c1
                have l2 := (HK.out.a _ (.tail _ (.tail _ (.tail _ (.tail _ (.tail _ (.head _))))))).c2
                have l3 := (HK.out.a _ (.tail _ (.tail _ (.tail _ (.tail _ (.tail _ (.head _))))))).c3
                have l4 := (HK.out.a _ (.tail _ (.tail _ (.tail _ (.tail _ (.tail _ (.head _))))))).c4
                have c0 := (HK.out.a _ (.tail _ (.tail _ (.tail _ (.tail _ (.head _)))))).c0
                have c1 := (HK.out.a _ (.tail _ (.tail _ (.tail _ (.tail _ (.head _)))))).c1
                have c2 := (HK.out.a _ (.tail _ (.tail _ (.tail _ (.tail _ (.head _)))))).c2
                have c3 := (HK.out.a _ (.tail _ (.tail _ (.tail _ (.tail _ (.head _)))))).c3
                have c4 := (HK.out.a _ (.tail _ (.tail _ (.tail _ (.tail _ (.head _)))))).c4
                have qx0 := (HK.out.a _ (.tail _ (.tail _ (.head _)))).c0
                have qx1 := (HK.out.a _ (.tail _ (.tail _ (.head _)))).c1
                have qx2 := (HK.out.a _ (.tail _ (.tail _ (.head _)))).c2
                have qx3 := (HK.out.a _ (.tail _ (.tail _ (.head _)))).c3
                have qx4 := (HK.out.a _ (.tail _ (.tail _ (.head _)))).c4
                have qy0 := (HK.out.a _ (.tail _ (.head _))).c0
                have qy1 := (HK.out.a _ (.tail _ (.head _))).c1
                have qy2 := (HK.out.a _ (.tail _ (.head _))).c2
                have qy3 := (HK.out.a _ (.tail _ (.head _))).c3
                have qy4 := (HK.out.a _ (.tail _ (.head _))).c4
                have qz0 := (HK.out.a _ (.head _)).c0
                have qz1 := (HK.out.a _ (.head _)).c1
                have qz2 := (HK.out.a _ (.head _)).c2
                have qz3 := (HK.out.a _ (.head _)).c3
                have qz4 := (HK.out.a _ (.head _)).c4
                go_wp2_with fail
                go_quiet (fail)
                generalize hW0 : World.drewN W0 _ = W1
                have hd0 : Below W0.heap.size W0 W1 := by rw [← hW0]; exact drewN_below _ _
                have HKn := Lib.hid (HK.out.next hd0)
                have g1_qz : W1.cell? ⟨bz, oz, none⟩ = some (.int .i64 (m : Int)) := (hd0.cell (p := ⟨bz, oz, none⟩) hb_qz).trans g_qz
                have hb1_qz : bz < W1.heap.size := Nat.lt_of_lt_of_le hb_qz hd0.size
                clear g_qz hb_qz
                have g_qz := g1_qz
                have hb_qz := hb1_qz
                clear g1_qz hb1_qz
                have g1_c : W1.cell? ⟨bc, oc + j, none⟩ = some (.int .i64 (m : Int)) := (hd0.cell (p := ⟨bc, oc + j, none⟩) hb_c).trans g_c
                have hb1_c : bc < W1.heap.size := Nat.lt_of_lt_of_le hb_c hd0.size
                clear g_c hb_c
                have g_c := g1_c
                have hb_c := hb1_c
                clear g1_c hb1_c
                have g1_qy : W1.cell? ⟨b_y, oy, none⟩ = some (.int .i64 yv) := (hd0.cell (p := ⟨b_y, oy, none⟩) hb_qy).trans g_qy
                have hb1_qy : b_y < W1.heap.size := Nat.lt_of_lt_of_le hb_qy hd0.size
                clear g_qy hb_qy
                have g_qy := g1_qy
                have hb_qy := hb1_qy
                clear g1_qy hb1_qy
                have g1_l : W1.cell? ⟨bl, ol + j, none⟩ = some (.int .i64 yv) := (hd0.cell (p := ⟨bl, ol + j, none⟩) hb_l).trans g_l
                have hb1_l : bl < W1.heap.size := Nat.lt_of_lt_of_le hb_l hd0.size
                clear g_l hb_l
                have g_l := g1_l
                have hb_l := hb1_l
                clear g1_l hb1_l
                clear HK hW0 hd0 s0 s1 s2 s3 s4 l0 l1 l2 l3 l4 c0 c1 c2 c3 c4 qx0 qx1 qx2 qx3 qx4 qy0 qy1 qy2 qy3 qy4 qz0 qz1 qz2 qz3 qz4
                have HK := HKn
                clear HKn
                have s0 := (HK.out.a _ (.tail _ (.tail _ (.tail _ (.tail _ (.tail _ (.tail _ (.head _)))))))).c0
                have s1 := (HK.out.a _ (.tail _ (.tail _ (.tail _ (.tail _ (.tail _ (.tail _ (.head _)))))))).c1
                have s2 := (HK.out.a _ (.tail _ (.tail _ (.tail _ (.tail _ (.tail _ (.tail _ (.head _)))))))).c2
                have s3 := (HK.out.a _ (.tail _ (.tail _ (.tail _ (.tail _ (.tail _ (.tail _ (.head _)))))))).c3
                have s4 := (HK.out.a _ (.tail _ (.tail _ (.tail _ (.tail _ (.tail _ (.tail _ (.head _)))))))).c4
                have l0 := (HK.out.a _ (.tail _ (.tail _ (.tail _ (.tail _ (.tail _ (.head _))))))).c0
                have l1 := (HK.out.a _ (.tail _ (.tail _ (.tail _ (.tail _ (.tail _ (.head _))))))).c1
                have l2 := (HK.out.a _ (.tail _ (.tail _ (.tail _ (.tail _ (.tail _ (.head _))))))).c2
                have l3 := (HK.out.a _ (.tail _ (.tail _ (.tail _ (.tail _ (.tail _ (.head _))))))).c3
                have l4 := (HK.out.a _ (.tail _ (.tail _ (.tail _ (.tail _ (.tail _ (.head _))))))).c4
                have c0 := (HK.out.a _ (.tail _ (.tail _ (.tail _ (.tail _ (.head _)))))).c0
                have c1 := (HK.out.a _ (.tail _ (.tail _ (.tail _ (.tail _ (.head _)))))).c1
                have c2 := (HK.out.a _ (.tail _ (.tail _ (.tail _ (.tail _ (.head _)))))).c2
                have c3 := (HK.out.a _ (.tail _ (.tail _ (.tail _ (.tail _ (.head _)))))).c3
                have c4 := (HK.out.a _ (.tail _ (.tail _ (.tail _ (.tail _ (.head _)))))).c4
                have qx0 := (HK.out.a _ (.tail _ (.tail _ (.head _)))).c0
                have qx1 := (HK.out.a _ (.tail _ (.tail _ (.head _)))).c1
                have qx2 := (HK.out.a _ (.tail _ (.tail _ (.head _)))).c2
                have qx3 := (HK.out.a _ (.tail _ (.tail _ (.head _)))).c3
                have qx4 := (HK.out.a _ (.tail _ (.tail _ (.head _)))).c4
                have qy0 := (HK.out.a _ (.tail _ (.head _))).c0
                have qy1 := (HK.out.a _ (.tail _ (.head _))).c1
                have qy2 := (HK.out.a _ (.tail _ (.head _))).c2
                have qy3 := (HK.out.a _ (.tail _ (.head _))).c3
                have qy4 := (HK.out.a _ (.tail _ (.head _))).c4
                have qz0 := (HK.out.a _ (.head _)).c0
                have qz1 := (HK.out.a _ (.head _)).c1
                have qz2 := (HK.out.a _ (.head _)).c2
                have qz3 := (HK.out.a _ (.head _)).c3
                have qz4 := (HK.out.a _ (.head _)).c4
                go_wp2_with fail
                go_quiet (fail)
                generalize hW1 : World.drewN W1 _ = W2
                have hd1 : Below W1.heap.size W1 W2 := by rw [← hW1]; exact drewN_below _ _
                have HKn := Lib.hid (HK.out.next hd1)
                have g1_qz : W2.cell? ⟨bz, oz, none⟩ = some (.int .i64 (m : Int)) := (hd1.cell (p := ⟨bz, oz, none⟩) hb_qz).trans g_qz
                have hb1_qz : bz < W2.heap.size := Nat.lt_of_lt_of_le hb_qz hd1.size
                clear g_qz hb_qz
                have g_qz := g1_qz
                have hb_qz := hb1_qz
                clear g1_qz hb1_qz
                have g1_c : W2.cell? ⟨bc, oc + j, none⟩ = some (.int .i64 (m : Int)) := (hd1.cell (p := ⟨bc, oc + j, none⟩) hb_c).trans g_c
                have hb1_c : bc < W2.heap.size := Nat.lt_of_lt_of_le hb_c hd1.size
                clear g_c hb_c
                have g_c := g1_c
                have hb_c := hb1_c
                clear g1_c hb1_c
                have g1_qy : W2.cell? ⟨b_y, oy, none⟩ = some (.int .i64 yv) := (hd1.cell (p := ⟨b_y, oy, none⟩) hb_qy).trans g_qy
                have hb1_qy : b_y < W2.heap.size := Nat.lt_of_lt_of_le hb_qy hd1.size
                clear g_qy hb_qy
                have g_qy := g1_qy
                have hb_qy := hb1_qy
                clear g1_qy hb1_qy
                have g1_l : W2.cell? ⟨bl, ol + j, none⟩ = some (.int .i64 yv) := (hd1.cell (p := ⟨bl, ol + j, none⟩) hb_l).trans g_l
                have hb1_l : bl < W2.heap.size := Nat.lt_of_lt_of_le hb_l hd1.size
                clear g_l hb_l
                have g_l := g1_l
                have hb_l := hb1_l
                clear g1_l hb1_l
                clear HK hW1 hd1 s0 s1 s2 s3 s4 l0 l1 l2 l3 l4 c0 c1 c2 c3 c4 qx0 qx1 qx2 qx3 qx4 qy0 qy1 qy2 qy3 qy4 qz0 qz1 qz2 qz3 qz4
                have HK := HKn
                clear HKn
                have s0 := (HK.out.a _ (.tail _ (.tail _ (.tail _ (.tail _ (.tail _ (.tail _ (.head _)))))))).c0
                have s1 := (HK.out.a _ (.tail _ (.tail _ (.tail _ (.tail _ (.tail _ (.tail _ (.head _)))))))).c1
                have s2 := (HK.out.a _ (.tail _ (.tail _ (.tail _ (.tail _ (.tail _ (.tail _ (.head _)))))))).c2
                have s3 := (HK.out.a _ (.tail _ (.tail _ (.tail _ (.tail _ (.tail _ (.tail _ (.head _)))))))).c3
                have s4 := (HK.out.a _ (.tail _ (.tail _ (.tail _ (.tail _ (.tail _ (.tail _ (.head _)))))))).c4
                have l0 := (HK.out.a _ (.tail _ (.tail _ (.tail _ (.tail _ (.tail _ (.head _))))))).c0
                have l1 := (HK.out.a _ (.tail _ (.tail _ (.tail _ (.tail _ (.tail _ (.head _))))))).c1
                have l2 := (HK.out.a _ (.tail _ (.tail _ (.tail _ (.tail _ (.tail _ (.head _))))))).c2
                have l3 := (HK.out.a _ (.tail _ (.tail _ (.tail _ (.tail _ (.tail _ (.head _))))))).c3
                have l4 := (HK.out.a _ (.tail _ (.tail _ (.tail _ (.tail _ (.tail _ (.head _))))))).c4
                have c0 := (HK.out.a _ (.tail _ (.tail _ (.tail _ (.tail _ (.head _)))))).c0
                have c1 := (HK.out.a _ (.tail _ (.tail _ (.tail _ (.tail _ (.head _)))))).c1
                have c2 := (HK.out.a _ (.tail _ (.tail _ (.tail _ (.tail _ (.head _)))))).c2
                have c3 := (HK.out.a _ (.tail _ (.tail _ (.tail _ (.tail _ (.head _)))))).c3
                have c4 := (HK.out.a _ (.tail _ (.tail _ (.tail _ (.tail _ (.head _)))))).c4
                have qx0 := (HK.out.a _ (.tail _ (.tail _ (.head _)))).c0
                have qx1 := (HK.out.a _ (.tail _ (.tail _ (.head _)))).c1
                have qx2 := (HK.out.a _ (.tail _ (.tail _ (.head _)))).c2
                have qx3 := (HK.out.a _ (.tail _ (.tail _ (.head _)))).c3
                have qx4 := (HK.out.a _ (.tail _ (.tail _ (.head _)))).c4
                have qy0 := (HK.out.a _ (.tail _ (.head _))).c0
                have qy1 := (HK.out.a _ (.tail _ (.head _))).c1
                have qy2 := (HK.out.a _ (.tail _ (.head _))).c2
                have qy3 := (HK.out.a _ (.tail _ (.head _))).c3
                have qy4 := (HK.out.a _ (.tail _ (.head _))).c4
                have qz0 := (HK.out.a _ (.head _)).c0
                have qz1 := (HK.out.a _ (.head _)).c1
                have qz2 := (HK.out.a _ (.head _)).c2
                have qz3 := (HK.out.a _ (.head _)).c3
                have qz4 := (HK.out.a _ (.head _)).c4
                go_wp2_with fail
                go_quiet (fail)
                generalize hW2 : World.drewN W2 _ = W3
                have hd2 : Below W2.heap.size W2 W3 := by rw [← hW2]; exact drewN_below _ _
                have HKn := Lib.hid (HK.out.next hd2)
                have g1_qz : W3.cell? ⟨bz, oz, none⟩ = some (.int .i64 (m : Int)) := (hd2.cell (p := ⟨bz, oz, none⟩) hb_qz).trans g_qz
                have hb1_qz : bz < W3.heap.size := Nat.lt_of_lt_of_le hb_qz hd2.size
                clear g_qz hb_qz
                have g_qz := g1_qz
                have hb_qz := hb1_qz
                clear g1_qz hb1_qz
                have g1_c : W3.cell? ⟨bc, oc + j, none⟩ = some (.int .i64 (m : Int)) := (hd2.cell (p := ⟨bc, oc + j, none⟩) hb_c).trans g_c
                have hb1_c : bc < W3.heap.size := Nat.lt_of_lt_of_le hb_c hd2.size
                clear g_c hb_c
                have g_c := g1_c
                have hb_c := hb1_c
                clear g1_c hb1_c
                have g1_qy : W3.cell? ⟨b_y, oy, none⟩ = some (.int .i64 yv) := (hd2.cell (p := ⟨b_y, oy, none⟩) hb_qy).trans g_qy
                have hb1_qy : b_y < W3.heap.size := Nat.lt_of_lt_of_le hb_qy hd2.size
                clear g_qy hb_qy
                have g_qy := g1_qy
                have hb_qy := hb1_qy
                clear g1_qy hb1_qy
                have g1_l : W3.cell? ⟨bl, ol + j, none⟩ = some (.int .i64 yv) := (hd2.cell (p := ⟨bl, ol + j, none⟩) hb_l).trans g_l
                have hb1_l : bl < W3.heap.size := Nat.lt_of_lt_of_le hb_l hd2.size
                clear g_l hb_l
                have g_l := g1_l
                have hb_l := hb1_l
                clear g1_l hb1_l
                clear HK hW2 hd2 s0 s1 s2 s3 s4 l0 l1 l2 l3 l4 c0 c1 c2 c3 c4 qx0 qx1 qx2 qx3 qx4 qy0 qy1 qy2 qy3 qy4 qz0 qz1 qz2 qz3 qz4
                have HK := HKn
                clear HKn
                have s0 := (HK.out.a _ (.tail _ (.tail _ (.tail _ (.tail _ (.tail _ (.tail _ (.head _)))))))).c0
                have s1 := (HK.out.a _ (.tail _ (.tail _ (.tail _ (.tail _ (.tail _ (.tail _ (.head _)))))))).c1
                have s2 := (HK.out.a _ (.tail _ (.tail _ (.tail _ (.tail _ (.tail _ (.tail _ (.head _)))))))).c2
                have s3 := (HK.out.a _ (.tail _ (.tail _ (.tail _ (.tail _ (.tail _ (.tail _ (.head _)))))))).c3
                have s4 := (HK.out.a _ (.tail _ (.tail _ (.tail _ (.tail _ (.tail _ (.tail _ (.head _)))))))).c4
                have l0 := (HK.out.a _ (.tail _ (.tail _ (.tail _ (.tail _ (.tail _ (.head _))))))).c0
                have l1 := (HK.out.a _ (.tail _ (.tail _ (.tail _ (.tail _ (.tail _ (.head _))))))).c1
                have l2 := (HK.out.a _ (.tail _ (.tail _ (.tail _ (.tail _ (.tail _ (.head _))))))).c2
                have l3 := (HK.out.a _ (.tail _ (.tail _ (.tail _ (.tail _ (.tail _ (.head _))))))).c3
                have l4 := (HK.out.a _ (.tail _ (.tail _ (.tail _ (.tail _ (.tail _ (.head _))))))).c4
                have c0 := (HK.out.a _ (.tail _ (.tail _ (.tail _ (.tail _ (.head _)))))).c0
                have c1 := (HK.out.a _ (.tail _ (.tail _ (.tail _ (.tail _ (.head _)))))).c1
                have c2 := (HK.out.a _ (.tail _ (.tail _ (.tail _ (.tail _ (.head _)))))).c2
                have c3 := (HK.out.a _ (.tail _ (.tail _ (.tail _ (.tail _ (.head _)))))).c3
                have c4 := (HK.out.a _ (.tail _ (.tail _ (.tail _ (.tail _ (.head _)))))).c4
                have qx0 := (HK.out.a _ (.tail _ (.tail _ (.head _)))).c0
                have qx1 := (HK.out.a _ (.tail _ (.tail _ (.head _)))).c1
                have qx2 := (HK.out.a _ (.tail _ (.tail _ (.head _)))).c2
                have qx3 := (HK.out.a _ (.tail _ (.tail _ (.head _)))).c3
                have qx4 := (HK.out.a _ (.tail _ (.tail _ (.head _)))).c4
                have qy0 := (HK.out.a _ (.tail _ (.head _))).c0
                have qy1 := (HK.out.a _ (.tail _ (.head _))).c1
                have qy2 := (HK.out.a _ (.tail _ (.head _))).c2
                have qy3 := (HK.out.a _ (.tail _ (.head _))).c3
                have qy4 := (HK.out.a _ (.tail _ (.head _))).c4
                have qz0 := (HK.out.a _ (.head _)).c0
                have qz1 := (HK.out.a _ (.head _)).c1
                have qz2 := (HK.out.a _ (.head _)).c2
                have qz3 := (HK.out.a _ (.head _)).c3
                have qz4 := (HK.out.a _ (.head _)).c4
                go_wp2_with fail
                go_roundg g2
                case measure => omega
                case rel => exact ⟨j + 1, _, _, by omega, rfl, rfl, by go_num, HFn.out, HGn.out, HK.out.drop (fun b m => by simp only [List.mem_cons, List.not_mem_nil, or_false] at m ⊢; rcases m with rfl | rfl | rfl | rfl <;> simp)⟩
            · skip
              have hs12 := HS12.out hs
              have h12 : (sm1 row).2 = 12 := hsm.resolve_left h20
              have hsv : smV (vecA 1 row) = ⟨0, 0, 0, 0, []⟩ := orNo_no (by rw [(sm_vec hGr2.out rfl).1]; exact h20)
              rw [hsv, h12] at HQ1
              have HFn : Hid (E1 = feL (cs.take (j + 1))) := by unfold Hid; rw [hft, if_neg he1]
              have ke1 : (E1 == 0) = false := by simpa using he1
              subst hs12
              clear vR h12 h20 hft hSv hsm hs hsv he1
              as_aux_lemma =>
                go_wp2_with (first
                  | (go_at_call 22; (with_reducible refine (HVc.out _ (HRd.out _ _ (by with_unfolding_all exact HK.out.r _ (.tail _ (.tail _ (.tail _ (.head _))))))).mono ?_); rintro e wr1 ⟨uwr1, rfl, hu, hb⟩; obtain ⟨pwr1, cwr1, hpwr1, _, _⟩ := hu.form; have hqwr1 : uwr1 = (.slice pwr1 m cwr1) := (by rw [hpwr1, HIl.out]); subst hqwr1; clear hpwr1; have hltcrow : wcn.heap.size < wr1.heap.size := Nat.lt_of_lt_of_le (HK.out.lt _ (.head _)) hb.size; have hltlrow : wb.heap.size < wr1.heap.size := Nat.lt_of_lt_of_le (HK.out.lt _ (.tail _ (.head _))) hb.size; have hltsrow : wa.heap.size < wr1.heap.size := Nat.lt_of_lt_of_le (HK.out.lt _ (.tail _ (.tail _ (.head _)))) hb.size; have hltxrow : w.heap.size < wr1.heap.size := Nat.lt_of_lt_of_le (HK.out.lt _ (.tail _ (.tail _ (.tail _ (.head _))))) hb.size; have HK2 := Lib.hid (HK.out.res hb ⟨1, 1, (m : Int), 0, row⟩ hu); clear HK x0 x1 x2 x3 x4 s0 s1 s2 s3 s4 l0 l1 l2 l3 l4 c0 c1 c2 c3 c4; have HK := HK2; clear HK2; clear hb hu; have x0 := (HK.out.a _ (.tail _ (.tail _ (.tail _ (.tail _ (.head _)))))).c0; have x1 := (HK.out.a _ (.tail _ (.tail _ (.tail _ (.tail _ (.head _)))))).c1; have x2 := (HK.out.a _ (.tail _ (.tail _ (.tail _ (.tail _ (.head _)))))).c2; have x3 := (HK.out.a _ (.tail _ (.tail _ (.tail _ (.tail _ (.head _)))))).c3; have x4 := (HK.out.a _ (.tail _ (.tail _ (.tail _ (.tail _ (.head _)))))).c4; have s0 := (HK.out.a _ (.tail _ (.tail _ (.tail _ (.head _))))).c0; have s1 := (HK.out.a _ (.tail _ (.tail _ (.tail _ (.head _))))).c1; have s2 := (HK.out.a _ (.tail _ (.tail _ (.tail _ (.head _))))).c2; have s3 := (HK.out.a _ (.tail _ (.tail _ (.tail _ (.head _))))).c3; have s4 := (HK.out.a _ (.tail _ (.tail _ (.tail _ (.head _))))).c4; have l0 := (HK.out.a _ (.tail _ (.tail _ (.head _)))).c0; have l1 := (HK.out.a _ (.tail _ (.tail _ (.head _)))).c1; have l2 := (HK.out.a _ (.tail _ (.tail _ (.head _)))).c2; have l3 := (HK.out.a _ (.tail _ (.tail _ (.head _)))).c3; have l4 := (HK.out.a _ (.tail _ (.tail _ (.head _)))).c4; have c0 := (HK.out.a _ (.tail _ (.head _))).c0; have c1 := (HK.out.a _ (.tail _ (.head _))).c1; have c2 := (HK.out.a _ (.tail _ (.head _))).c2; have c3 := (HK.out.a _ (.tail _ (.head _))).c3; have c4 := (HK.out.a _ (.tail _ (.head _))).c4; have row0 := (HK.out.a _ (.head _)).c0; have row1 := (HK.out.a _ (.head _)).c1; have row2 := (HK.out.a _ (.head _)).c2; have row3 := (HK.out.a _ (.head _)).c3; have row4 := (HK.out.a _ (.head _)).c4)
                  | (go_at_call 26; (with_reducible refine (HQ1.out _ _ (by with_unfolding_all exact HK.out.lay) (by with_unfolding_all exact HK.out.r _ (.head _)) (by with_unfolding_all exact HK.out.n _ (.head _))).mono ?_); rintro e wr2 ⟨uwr2, rfl, hu, hb⟩; obtain ⟨pwr2, cwr2, hpwr2, _, _⟩ := hu.form; have hqwr2 : uwr2 = (.slice pwr2 0 cwr2) := hpwr2; subst hqwr2; clear hpwr2; have hltrowqx : wr1.heap.size < wr2.heap.size := Nat.lt_of_lt_of_le (HK.out.lt _ (.head _)) hb.size; have hltcqx : wcn.heap.size < wr2.heap.size := Nat.lt_of_lt_of_le (HK.out.lt _ (.tail _ (.head _))) hb.size; have hltlqx : wb.heap.size < wr2.heap.size := Nat.lt_of_lt_of_le (HK.out.lt _ (.tail _ (.tail _ (.head _)))) hb.size; have hltsqx : wa.heap.size < wr2.heap.size := Nat.lt_of_lt_of_le (HK.out.lt _ (.tail _ (.tail _ (.tail _ (.head _))))) hb.size; have hltxqx : w.heap.size < wr2.heap.size := Nat.lt_of_lt_of_le (HK.out.lt _ (.tail _ (.tail _ (.tail _ (.tail _ (.head _)))))) hb.size; have HK2 := Lib.hid (HK.out.res hb ⟨0, 0, 0, 0, []⟩ hu); clear HK x0 x1 x2 x3 x4 s0 s1 s2 s3 s4 l0 l1 l2 l3 l4 c0 c1 c2 c3 c4 row0 row1 row2 row3 row4; have HK := HK2; clear HK2; clear hb hu; have x0 := (HK.out.a _ (.tail _ (.tail _ (.tail _ (.tail _ (.tail _ (.head _))))))).c0; have x1 := (HK.out.a _ (.tail _ (.tail _ (.tail _ (.tail _ (.tail _ (.head _))))))).c1; have x2 := (HK.out.a _ (.tail _ (.tail _ (.tail _ (.tail _ (.tail _ (.head _))))))).c2; have x3 := (HK.out.a _ (.tail _ (.tail _ (.tail _ (.tail _ (.tail _ (.head _))))))).c3; have x4 := (HK.out.a _ (.tail _ (.tail _ (.tail _ (.tail _ (.tail _ (.head _))))))).c4; have s0 := (HK.out.a _ (.tail _ (.tail _ (.tail _ (.tail _ (.head _)))))).c0; have s1 := (HK.out.a _ (.tail _ (.tail _ (.tail _ (.tail _ (.head _)))))).c1; have s2 := (HK.out.a _ (.tail _ (.tail _ (.tail _ (.tail _ (.head _)))))).c2; have s3 := (HK.out.a _ (.tail _ (.tail _ (.tail _ (.tail _ (.head _)))))).c3; have s4 := (HK.out.a _ (.tail _ (.tail _ (.tail _ (.tail _ (.head _)))))).c4; have l0 := (HK.out.a _ (.tail _ (.tail _ (.tail _ (.head _))))).c0; have l1 := (HK.out.a _ (.tail _ (.tail _ (.tail _ (.head _))))).c1; have l2 := (HK.out.a _ (.tail _ (.tail _ (.tail _ (.head _))))).c2; have l3 := (HK.out.a _ (.tail _ (.tail _ (.tail _ (.head _))))).c3; have l4 := (HK.out.a _ (.tail _ (.tail _ (.tail _ (.head _))))).c4; have c0 := (HK.out.a _ (.tail _ (.tail _ (.head _)))).c0; have c1 := (HK.out.a _ (.tail _ (.tail _ (.head _)))).c1; have c2 := (HK.out.a _ (.tail _ (.tail _ (.head _)))).c2; have c3 := (HK.out.a _ (.tail _ (.tail _ (.head _)))).c3; have c4 := (HK.out.a _ (.tail _ (.tail _ (.head _)))).c4; have row0 := (HK.out.a _ (.tail _ (.head _))).c0; have row1 := (HK.out.a _ (.tail _ (.head _))).c1; have row2 := (HK.out.a _ (.tail _ (.head _))).c2; have row3 := (HK.out.a _ (.tail _ (.head _))).c3; have row4 := (HK.out.a _ (.tail _ (.head _))).c4; have qx0 := (HK.out.a _ (.head _)).c0; have qx1 := (HK.out.a _ (.head _)).c1; have qx2 := (HK.out.a _ (.head _)).c2; have qx3 := (HK.out.a _ (.head _)).c3; have qx4 := (HK.out.a _ (.head _)).c4)
                  | (go_at_call 30; (with_reducible refine (HQ2.out _ _ (by with_unfolding_all exact HK.out.lay) (by with_unfolding_all exact HK.out.r _ (.tail _ (.head _))) (by with_unfolding_all exact HK.out.n _ (.tail _ (.head _)))).mono ?_); rintro e wr3 ⟨uwr3, rfl, hu, hb⟩; obtain ⟨pwr3, cwr3, hpwr3, _, _⟩ := hu.form; have hqwr3 : uwr3 = (.slice pwr3 1 cwr3) := hpwr3; subst hqwr3; clear hpwr3; have hltqxqy : wr2.heap.size < wr3.heap.size := Nat.lt_of_lt_of_le (HK.out.lt _ (.head _)) hb.size; have hltrowqy : wr1.heap.size < wr3.heap.size := Nat.lt_of_lt_of_le (HK.out.lt _ (.tail _ (.head _))) hb.size; have hltcqy : wcn.heap.size < wr3.heap.size := Nat.lt_of_lt_of_le (HK.out.lt _ (.tail _ (.tail _ (.head _)))) hb.size; have hltlqy : wb.heap.size < wr3.heap.size := Nat.lt_of_lt_of_le (HK.out.lt _ (.tail _ (.tail _ (.tail _ (.head _))))) hb.size; have hltsqy : wa.heap.size < wr3.heap.size := Nat.lt_of_lt_of_le (HK.out.lt _ (.tail _ (.tail _ (.tail _ (.tail _ (.head _)))))) hb.size; have hltxqy : w.heap.size < wr3.heap.size := Nat.lt_of_lt_of_le (HK.out.lt _ (.tail _ (.tail _ (.tail _ (.tail _ (.tail _ (.head _))))))) hb.size; have HK2 := Lib.hid (HK.out.res hb ⟨1, 0, 0, 0, [yv]⟩ hu); clear HK x0 x1 x2 x3 x4 s0 s1 s2 s3 s4 l0 l1 l2 l3 l4 c0 c1 c2 c3 c4 row0 row1 row2 row3 row4 qx0 qx1 qx2 qx3 qx4; have HK := HK2; clear HK2; clear hb hu; have x0 := (HK.out.a _ (.tail _ (.tail _ (.tail _ (.tail _ (.tail _ (.tail _ (.head _)))))))).c0; have x1 := (HK.out.a _ (.tail _ (.tail _ (.tail _ (.tail _ (.tail _ (.tail _ (.head _)))))))).c1; have x2 := (HK.out.a _ (.tail _ (.tail _ (.tail _ (.tail _ (.tail _ (.tail _ (.head _)))))))).c2; have x3 := (HK.out.a _ (.tail _ (.tail _ (.tail _ (.tail _ (.tail _ (.tail _ (.head _)))))))).c3; have x4 := (HK.out.a _ (.tail _ (.tail _ (.tail _ (.tail _ (.tail _ (.tail _ (.head _)))))))).c4; have s0 := (HK.out.a _ (.tail _ (.tail _ (.tail _ (.tail _ (.tail _ (.head _))))))).c0; have s1 := (HK.out.a _ (.tail _ (.tail _ (.tail _ (.tail _ (.tail _ (.head _))))))).c1; have s2 := (HK.out.a _ (.tail _ (.tail _ (.tail _ (.tail _ (.tail _ (.head _))))))).c2; have s3 := (HK.out.a _ (.tail _ (.tail _ (.tail _ (.tail _ (.tail _ (.head _))))))).c3; have s4 := (HK.out.a _ (.tail _ (.tail _ (.tail _ (.tail _ (.tail _ (.head _))))))).c4; have l0 := (HK.out.a _ (.tail _ (.tail _ (.tail _ (.tail _ (.head _)))))).c0; have l1 := (HK.out.a _ (.tail _ (.tail _ (.tail _ (.tail _ (.head _)))))).c1; have l2 := (HK.out.a _ (.tail _ (.tail _ (.tail _ (.tail _ (.head _)))))).c2; have l3 := (HK.out.a _ (.tail _ (.tail _ (.tail _ (.tail _ (.head _)))))).c3; have l4 := (HK.out.a _ (.tail _ (.tail _ (.tail _ (.tail _ (.head _)))))).c4; have c0 := (HK.out.a _ (.tail _ (.tail _ (.tail _ (.head _))))).c0; have c1 := (HK.out.a _ (.tail _ (.tail _ (.tail _ (.head _))))).c1; have c2 := (HK.out.a _ (.tail _ (.tail _ (.tail _ (.head _))))).c2; have c3 := (HK.out.a _ (.tail _ (.tail _ (.tail _ (.head _))))).c3; have c4 := (HK.out.a _ (.tail _ (.tail _ (.tail _ (.head _))))).c4; have row0 := (HK.out.a _ (.tail _ (.tail _ (.head _)))).c0; have row1 := (HK.out.a _ (.tail _ (.tail _ (.head _)))).c1; have row2 := (HK.out.a _ (.tail _ (.tail _ (.head _)))).c2; have row3 := (HK.out.a _ (.tail _ (.tail _ (.head _)))).c3; have row4 := (HK.out.a _ (.tail _ (.tail _ (.head _)))).c4; have qx0 := (HK.out.a _ (.tail _ (.head _))).c0; have qx1 := (HK.out.a _ (.tail _ (.head _))).c1; have qx2 := (HK.out.a _ (.tail _ (.head _))).c2; have qx3 := (HK.out.a _ (.tail _ (.head _))).c3; have qx4 := (HK.out.a _ (.tail _ (.head _))).c4; have qy0 := (HK.out.a _ (.head _)).c0; have qy1 := (HK.out.a _ (.head _)).c1; have qy2 := (HK.out.a _ (.head _)).c2; have qy3 := (HK.out.a _ (.head _)).c3; have qy4 := (HK.out.a _ (.head _)).c4)
                  | (go_at_call 34; (with_reducible refine (HQ3.out _ _ (by with_unfolding_all exact HK.out.lay) (by with_unfolding_all exact HK.out.r _ (.tail _ (.tail _ (.head _)))) (by with_unfolding_all exact HK.out.n _ (.tail _ (.tail _ (.head _))))).mono ?_); rintro e wr4 ⟨uwr4, rfl, hu, hb⟩; obtain ⟨pwr4, cwr4, hpwr4, _, _⟩ := hu.form; have hqwr4 : uwr4 = (.slice pwr4 1 cwr4) := hpwr4; subst hqwr4; clear hpwr4; have hltqyqz : wr3.heap.size < wr4.heap.size := Nat.lt_of_lt_of_le (HK.out.lt _ (.head _)) hb.size; have hltqxqz : wr2.heap.size < wr4.heap.size := Nat.lt_of_lt_of_le (HK.out.lt _ (.tail _ (.head _))) hb.size; have hltrowqz : wr1.heap.size < wr4.heap.size := Nat.lt_of_lt_of_le (HK.out.lt _ (.tail _ (.tail _ (.head _)))) hb.size; have hltcqz : wcn.heap.size < wr4.heap.size := Nat.lt_of_lt_of_le (HK.out.lt _ (.tail _ (.tail _ (.tail _ (.head _))))) hb.size; have hltlqz : wb.heap.size < wr4.heap.size := Nat.lt_of_lt_of_le (HK.out.lt _ (.tail _ (.tail _ (.tail _ (.tail _ (.head _)))))) hb.size; have hltsqz : wa.heap.size < wr4.heap.size := Nat.lt_of_lt_of_le (HK.out.lt _ (.tail _ (.tail _ (.tail _ (.tail _ (.tail _ (.head _))))))) hb.size; have hltxqz : w.heap.size < wr4.heap.size := Nat.lt_of_lt_of_le (HK.out.lt _ (.tail _ (.tail _ (.tail _ (.tail _ (.tail _ (.tail _ (.head _)))))))) hb.size; have HK2 := Lib.hid (HK.out.res hb ⟨1, 0, 0, 0, [(m : Int)]⟩ hu); clear HK x0 x1 x2 x3 x4 s0 s1 s2 s3 s4 l0 l1 l2 l3 l4 c0 c1 c2 c3 c4 row0 row1 row2 row3 row4 qx0 qx1 qx2 qx3 qx4 qy0 qy1 qy2 qy3 qy4; have HK := HK2; clear HK2; clear hb hu; have x0 := (HK.out.a _ (.tail _ (.tail _ (.tail _ (.tail _ (.tail _ (.tail _ (.tail _ (.head _))))))))).c0; have x1 := (HK.out.a _ (.tail _ (.tail _ (.tail _ (.tail _ (.tail _ (.tail _ (.tail _ (.head _))))))))).c1; have x2 := (HK.out.a _ (.tail _ (.tail _ (.tail _ (.tail _ (.tail _ (.tail _ (.tail _ (.head _))))))))).c2; have x3 := (HK.out.a _ (.tail _ (.tail _ (.tail _ (.tail _ (.tail _ (.tail _ (.tail _ (.head _))))))))).c3; have x4 := (HK.out.a _ (.tail _ (.tail _ (.tail _ (.tail _ (.tail _ (.tail _ (.tail _ (.head _))))))))).c4; have s0 := (HK.out.a _ (.tail _ (.tail _ (.tail _ (.tail _ (.tail _ (.tail _ (.head _)))))))).c0; have s1 := (HK.out.a _ (.tail _ (.tail _ (.tail _ (.tail _ (.tail _ (.tail _ (.head _)))))))).c1; have s2 := (HK.out.a _ (.tail _ (.tail _ (.tail _ (.tail _ (.tail _ (.tail _ (.head _)))))))).c2; have s3 := (HK.out.a _ (.tail _ (.tail _ (.tail _ (.tail _ (.tail _ (.tail _ (.head _)))))))).c3; have s4 := (HK.out.a _ (.tail _ (.tail _ (.tail _ (.tail _ (.tail _ (.tail _ (.head _)))))))).c4; have l0 := (HK.out.a _ (.tail _ (.tail _ (.tail _ (.tail _ (.tail _ (.head _))))))).c0; have l1 := (HK.out.a _ (.tail _ (.tail _ (.tail _ (.tail _ (.tail _ (.head _))))))).c1; have l2 := (HK.out.a _ (.tail _ (.tail _ (.tail _ (.tail _ (.tail _ (.head _))))))).c2; have l3 := (HK.out.a _ (.tail _ (.tail _ (.tail _ (.tail _ (.tail _ (.head _))))))).c3; have l4 := (HK.out.a _ (.tail _ (.tail _ (.tail _ (.tail _ (.tail _ (.head _))))))).c4; have c0 := (HK.out.a _ (.tail _ (.tail _ (.tail _ (.tail _ (.head _)))))).c0; have c1 := (HK.out.a _ (.tail _ (.tail _ (.tail _ (.tail _ (.head _)))))).c1; have c2 := (HK.out.a _ (.tail _ (.tail _ (.tail _ (.tail _ (.head _)))))).c2; have c3 := (HK.out.a _ (.tail _ (.tail _ (.tail _ (.tail _ (.head _)))))).c3; have c4 := (HK.out.a _ (.tail _ (.tail _ (.tail _ (.tail _ (.head _)))))).c4; have row0 := (HK.out.a _ (.tail _ (.tail _ (.tail _ (.head _))))).c0; have row1 := (HK.out.a _ (.tail _ (.tail _ (.tail _ (.head _))))).c1; have row2 := (HK.out.a _ (.tail _ (.tail _ (.tail _ (.head _))))).c2; have row3 := (HK.out.a _ (.tail _ (.tail _ (.tail _ (.head _))))).c3; have row4 := (HK.out.a _ (.tail _ (.tail _ (.tail _ (.head _))))).c4; have qx0 := (HK.out.a _ (.tail _ (.tail _ (.head _)))).c0; have qx1 := (HK.out.a _ (.tail _ (.tail _ (.head _)))).c1; have qx2 := (HK.out.a _ (.tail _ (.tail _ (.head _)))).c2; have qx3 := (HK.out.a _ (.tail _ (.tail _ (.head _)))).c3; have qx4 := (HK.out.a _ (.tail _ (.tail _ (.head _)))).c4; have qy0 := (HK.out.a _ (.tail _ (.head _))).c0; have qy1 := (HK.out.a _ (.tail _ (.head _))).c1; have qy2 := (HK.out.a _ (.tail _ (.head _))).c2; have qy3 := (HK.out.a _ (.tail _ (.head _))).c3; have qy4 := (HK.out.a _ (.tail _ (.head _))).c4; have qz0 := (HK.out.a _ (.head _)).c0; have qz1 := (HK.out.a _ (.head _)).c1; have qz2 := (HK.out.a _ (.head _)).c2; have qz3 := (HK.out.a _ (.head _)).c3; have qz4 := (HK.out.a _ (.head _)).c4)
                  | fail)
                generalize hWq : World.alloc wr4 _ = W0 at HK ⊢
                clear hWq x0 x1 x2 x3 x4 s0 s1 s2 s3 s4 l0 l1 l2 l3 l4 c0 c1 c2 c3 c4 row0 row1 row2 row3 row4 qx0 qx1 qx2 qx3 qx4 qy0 qy1 qy2 qy3 qy4 qz0 qz1 qz2 qz3 qz4
                obtain ⟨bz, oz, hp_qz, hb_qz, hc_qz⟩ := (HK.out.r _ (.head _)).cells (by simp)
                subst hp_qz
                have g_qz : W0.cell? ⟨bz, oz, none⟩ = some (.int .i64 (m : Int)) := by have := hc_qz 0 (by simp); rw [Nat.add_zero] at this; exact this
                clear hc_qz
                obtain ⟨bc, oc, hp_c, hb_c, hc_c⟩ := (HK.out.r _ (.tail _ (.tail _ (.tail _ (.tail _ (.head _)))))).cells (by intro e; have e2 : cz = [] := e; rw [e2] at hjc; simp at hjc)
                subst hp_c
                have g_c : W0.cell? ⟨bc, oc + j, none⟩ = some (.int .i64 cz[j]) := hc_c j hjc
                rw [← show cz.getD j 0 = cz[j] by simp [List.getD_eq_getElem?_getD, hjc], hCv] at g_c
                clear hc_c
                obtain ⟨b_y, oy, hp_qy, hb_qy, hc_qy⟩ := (HK.out.r _ (.tail _ (.head _))).cells (by simp)
                subst hp_qy
                have g_qy : W0.cell? ⟨b_y, oy, none⟩ = some (.int .i64 yv) := by have := hc_qy 0 (by simp); rw [Nat.add_zero] at this; exact this
                clear hc_qy
                obtain ⟨bl, ol, hp_l, hb_l, hc_l⟩ := (HK.out.r _ (.tail _ (.tail _ (.tail _ (.tail _ (.tail _ (.head _))))))).cells (by intro e; have e2 : lz = [] := e; rw [e2] at hjl; simp at hjl)
                subst hp_l
                have g_l : W0.cell? ⟨bl, ol + j, none⟩ = some (.int .i64 lz[j]) := hc_l j hjl
                rw [← show lz.getD j 0 = lz[j] by simp [List.getD_eq_getElem?_getD, hjl], hLv1] at g_l
                clear hc_l
                have s0 := (HK.out.a _ (.tail _ (.tail _ (.tail _ (.tail _ (.tail _ (.tail _ (.head _)))))))).c0
                have s1 := (HK.out.a _ (.tail _ (.tail _ (.tail _ (.tail _ (.tail _ (.tail _ (.head _)))))))).c1
                have s2 := (HK.out.a _ (.tail _ (.tail _ (.tail _ (.tail _ (.tail _ (.tail _ (.head _)))))))).c2
                have s3 := (HK.out.a _ (.tail _ (.tail _ (.tail _ (.tail _ (.tail _ (.tail _ (.head _)))))))).c3
                have s4 := (HK.out.a _ (.tail _ (.tail _ (.tail _ (.tail _ (.tail _ (.tail _ (.head _)))))))).c4
                have l0 := (HK.out.a _ (.tail _ (.tail _ (.tail _ (.tail _ (.tail _ (.head _))))))).c0
                have l1 := (HK.out.a _ (.tail _ (.tail _ (.tail _ (.tail _ (.tail _ (.head _))))))).c1
                have l2 := (HK.out.a _ (.tail _ (.tail _ (.tail _ (.tail _ (.tail _ (.head _))))))).c2
                have l3 := (HK.out.a _ (.tail _ (.tail _ (.tail _ (.tail _ (.tail _ (.head _))))))).c3
                have l4 := (HK.out.a _ (.tail _ (.tail _ (.tail _ (.tail _ (.tail _ (.head _))))))).c4
                have c0 := (HK.out.a _ (.tail _ (.tail _ (.tail _ (.tail _ (.head _)))))).c0
                have c1 := (HK.out.a _ (.tail _ (.tail _ (.tail _ (.tail _ (.head _)))))).c1
                have c2 := (HK.out.a _ (.tail _ (.tail _ (.tail _ (.tail _ (.head _)))))).c2
                have c3 := (HK.out.a _ (.tail _ (.tail _ (.tail _ (.tail _ (.head _)))))).c3
                have c4 := (HK.out.a _ (.tail _ (.tail _ (.tail _ (.tail _ (.head _)))))).c4
                have qx0 := (HK.out.a _ (.tail _ (.tail _ (.head _)))).c0
                have qx1 := (HK.out.a _ (.tail _ (.tail _ (.head _)))).c1
                have qx2 := (HK.out.a _ (.tail _ (.tail _ (.head _)))).c2
                have qx3 := (HK.out.a _ (.tail _ (.tail _ (.head _)))).c3
                have qx4 := (HK.out.a _ (.tail _ (.tail _ (.head _)))).c4
                have qy0 := (HK.out.a _ (.tail _ (.head _))).c0
                have qy1 := (HK.out.a _ (.tail _ (.head _))).c1
                have qy2 := (HK.out.a _ (.tail _ (.head _))).c2
                have qy3 := (HK.out.a _ (.tail _ (.head _))).c3
                have qy4 := (HK.out.a _ (.tail _ (.head _))).c4
                have qz0 := (HK.out.a _ (.head _)).c0
                have qz1 := (HK.out.a _ (.head _)).c1
                have qz2 := (HK.out.a _ (.head _)).c2
                have qz3 := (HK.out.a _ (.head _)).c3
                have qz4 := (HK.out.a _ (.head _)).c4
                go_wp2_with fail
                go_quiet (fail)
                generalize hW0 : World.drewN W0 _ = W1
                have hd0 : Below W0.heap.size W0 W1 := by rw [← hW0]; exact drewN_below _ _
                have HKn := Lib.hid (HK.out.next hd0)
                have g1_qz : W1.cell? ⟨bz, oz, none⟩ = some (.int .i64 (m : Int)) := (hd0.cell (p := ⟨bz, oz, none⟩) hb_qz).trans g_qz
                have hb1_qz : bz < W1.heap.size := Nat.lt_of_lt_of_le hb_qz hd0.size
                clear g_qz hb_qz
                have g_qz := g1_qz
                have hb_qz := hb1_qz
                clear g1_qz hb1_qz
                have g1_c : W1.cell? ⟨bc, oc + j, none⟩ = some (.int .i64 (m : Int)) := (hd0.cell (p := ⟨bc, oc + j, none⟩) hb_c).trans g_c
                have hb1_c : bc < W1.heap.size := Nat.lt_of_lt_of_le hb_c hd0.size
                clear g_c hb_c
                have g_c := g1_c
                have hb_c := hb1_c
                clear g1_c hb1_c
                have g1_qy : W1.cell? ⟨b_y, oy, none⟩ = some (.int .i64 yv) := (hd0.cell (p := ⟨b_y, oy, none⟩) hb_qy).trans g_qy
                have hb1_qy : b_y < W1.heap.size := Nat.lt_of_lt_of_le hb_qy hd0.size
                clear g_qy hb_qy
                have g_qy := g1_qy
                have hb_qy := hb1_qy
                clear g1_qy hb1_qy
                have g1_l : W1.cell? ⟨bl, ol + j, none⟩ = some (.int .i64 yv) := (hd0.cell (p := ⟨bl, ol + j, none⟩) hb_l).trans g_l
                have hb1_l : bl < W1.heap.size := Nat.lt_of_lt_of_le hb_l hd0.size
                clear g_l hb_l
                have g_l := g1_l
                have hb_l := hb1_l
                clear g1_l hb1_l
                clear HK hW0 hd0 s0 s1 s2 s3 s4 l0 l1 l2 l3 l4 c0 c1 c2 c3 c4 qx0 qx1 qx2 qx3 qx4 qy0 qy1 qy2 qy3 qy4 qz0 qz1 qz2 qz3 qz4
                have HK := HKn
                clear HKn
                have s0 := (HK.out.a _ (.tail _ (.tail _ (.tail _ (.tail _ (.tail _ (.tail _ (.head _)))))))).c0
                have s1 := (HK.out.a _ (.tail _ (.tail _ (.tail _ (.tail _ (.tail _ (.tail _ (.head _)))))))).c1
                have s2 := (HK.out.a _ (.tail _ (.tail _ (.tail _ (.tail _ (.tail _ (.tail _ (.head _)))))))).c2
                have s3 := (HK.out.a _ (.tail _ (.tail _ (.tail _ (.tail _ (.tail _ (.tail _ (.head _)))))))).c3
                have s4 := (HK.out.a _ (.tail _ (.tail _ (.tail _ (.tail _ (.tail _ (.tail _ (.head _)))))))).c4
                have l0 := (HK.out.a _ (.tail _ (.tail _ (.tail _ (.tail _ (.tail _ (.head _))))))).c0
                have l1 := (HK.out.a _ (.tail _ (.tail _ (.tail _ (.tail _ (.tail _ (.head _))))))).c1
                have l2 := (HK.out.a _ (.tail _ (.tail _ (.tail _ (.tail _ (.tail _ (.head _))))))).c2
                have l3 := (HK.out.a _ (.tail _ (.tail _ (.tail _ (.tail _ (.tail _ (.head _))))))).c3
                have l4 := (HK.out.a _ (.tail _ (.tail _ (.tail _ (.tail _ (.tail _ (.head _))))))).c4
                have c0 := (HK.out.a _ (.tail _ (.tail _ (.tail _ (.tail _ (.head _)))))).c0
                have c1 := (HK.out.a _ (.tail _ (.tail _ (.tail _ (.tail _ (.head _)))))).c1
                have c2 := (HK.out.a _ (.tail _ (.tail _ (.tail _ (.tail _ (.head _)))))).c2
                have c3 := (HK.out.a _ (.tail _ (.tail _ (.tail _ (.tail _ (.head _)))))).c3
                have c4 := (HK.out.a _ (.tail _ (.tail _ (.tail _ (.tail _ (.head _)))))).c4
                have qx0 := (HK.out.a _ (.tail _ (.tail _ (.head _)))).c0
                have qx1 := (HK.out.a _ (.tail _ (.tail _ (.head _)))).c1
                have qx2 := (HK.out.a _ (.tail _ (.tail _ (.head _)))).c2
                have qx3 := (HK.out.a _ (.tail _ (.tail _ (.head _)))).c3
                have qx4 := (HK.out.a _ (.tail _ (.tail _ (.head _)))).c4
                have qy0 := (HK.out.a _ (.tail _ (.head _))).c0
                have qy1 := (HK.out.a _ (.tail _ (.head _))).c1
                have qy2 := (HK.out.a _ (.tail _ (.head _))).c2
                have qy3 := (HK.out.a _ (.tail _ (.head _))).c3
                have qy4 := (HK.out.a _ (.tail _ (.head _))).c4
                have qz0 := (HK.out.a _ (.head _)).c0
                have qz1 := (HK.out.a _ (.head _)).c1
                have qz2 := (HK.out.a _ (.head _)).c2
                have qz3 := (HK.out.a _ (.head _)).c3
                have qz4 := (HK.out.a _ (.head _)).c4
                go_wp2_with fail
                go_quiet (fail)
                generalize hW1 : World.drewN W1 _ = W2
                have hd1 : Below W1.heap.size W1 W2 := by rw [← hW1]; exact drewN_below _ _
                have HKn := Lib.hid (HK.out.next hd1)
                have g1_qz : W2.cell? ⟨bz, oz, none⟩ = some (.int .i64 (m : Int)) := (hd1.cell (p := ⟨bz, oz, none⟩) hb_qz).trans g_qz
                have hb1_qz : bz < W2.heap.size := Nat.lt_of_lt_of_le hb_qz hd1.size
                clear g_qz hb_qz
                have g_qz := g1_qz
                have hb_qz := hb1_qz
                clear g1_qz hb1_qz
                have g1_c : W2.cell? ⟨bc, oc + j, none⟩ = some (.int .i64 (m : Int)) := (hd1.cell (p := ⟨bc, oc + j, none⟩) hb_c).trans g_c
                have hb1_c : bc < W2.heap.size := Nat.lt_of_lt_of_le hb_c hd1.size
                clear g_c hb_c
                have g_c := g1_c
                have hb_c := hb1_c
                clear g1_c hb1_c
                have g1_qy : W2.cell? ⟨b_y, oy, none⟩ = some (.int .i64 yv) := (hd1.cell (p := ⟨b_y, oy, none⟩) hb_qy).trans g_qy
                have hb1_qy : b_y < W2.heap.size := Nat.lt_of_lt_of_le hb_qy hd1.size
                clear g_qy hb_qy
                have g_qy := g1_qy
                have hb_qy := hb1_qy
                clear g1_qy hb1_qy
                have g1_l : W2.cell? ⟨bl, ol + j, none⟩ = some (.int .i64 yv) := (hd1.cell (p := ⟨bl, ol + j, none⟩) hb_l).trans g_l
                have hb1_l : bl < W2.heap.size := Nat.lt_of_lt_of_le hb_l hd1.size
                clear g_l hb_l
                have g_l := g1_l
                have hb_l := hb1_l
                clear g1_l hb1_l
                clear HK hW1 hd1 s0 s1 s2 s3 s4 l0 l1 l2 l3 l4 c0 c1 c2 c3 c4 qx0 qx1 qx2 qx3 qx4 qy0 qy1 qy2 qy3 qy4 qz0 qz1 qz2 qz3 qz4
                have HK := HKn
                clear HKn
                have s0 := (HK.out.a _ (.tail _ (.tail _ (.tail _ (.tail _ (.tail _ (.tail _ (.head _)))))))).c0
                have s1 := (HK.out.a _ (.tail _ (.tail _ (.tail _ (.tail _ (.tail _ (.tail _ (.head _)))))))).c1
                have s2 := (HK.out.a _ (.tail _ (.tail _ (.tail _ (.tail _ (.tail _ (.tail _ (.head _)))))))).c2
                have s3 := (HK.out.a _ (.tail _ (.tail _ (.tail _ (.tail _ (.tail _ (.tail _ (.head _)))))))).c3
                have s4 := (HK.out.a _ (.tail _ (.tail _ (.tail _ (.tail _ (.tail _ (.tail _ (.head _)))))))).c4
                have l0 := (HK.out.a _ (.tail _ (.tail _ (.tail _ (.tail _ (.tail _ (.head _))))))).c0
                have l1 := (HK.out.a _ (.tail _ (.tail _ (.tail _ (.tail _ (.tail _ (.head _))))))).c1
                have l2 := (HK.out.a _ (.tail _ (.tail _ (.tail _ (.tail _ (.tail _ (.head _))))))).c2
                have l3 := (HK.out.a _ (.tail _ (.tail _ (.tail _ (.tail _ (.tail _ (.head _))))))).c3
                have l4 := (HK.out.a _ (.tail _ (.tail _ (.tail _ (.tail _ (.tail _ (.head _))))))).c4
                have c0 := (HK.out.a _ (.tail _ (.tail _ (.tail _ (.tail _ (.head _)))))).c0
                have c1 := (HK.out.a _ (.tail _ (.tail _ (.tail _ (.tail _ (.head _)))))).c1
                have c2 := (HK.out.a _ (.tail _ (.tail _ (.tail _ (.tail _ (.head _)))))).c2
                have c3 := (HK.out.a _ (.tail _ (.tail _ (.tail _ (.tail _ (.head _)))))).c3
                have c4 := (HK.out.a _ (.tail _ (.tail _ (.tail _ (.tail _ (.head _)))))).c4
                have qx0 := (HK.out.a _ (.tail _ (.tail _ (.head _)))).c0
                have qx1 := (HK.out.a _ (.tail _ (.tail _ (.head _)))).c1
                have qx2 := (HK.out.a _ (.tail _ (.tail _ (.head _)))).c2
                have qx3 := (HK.out.a _ (.tail _ (.tail _ (.head _)))).c3
                have qx4 := (HK.out.a _ (.tail _ (.tail _ (.head _)))).c4
                have qy0 := (HK.out.a _ (.tail _ (.head _))).c0
                have qy1 := (HK.out.a _ (.tail _ (.head _))).c1
                have qy2 := (HK.out.a _ (.tail _ (.head _))).c2
                have qy3 := (HK.out.a _ (.tail _ (.head _))).c3
                have qy4 := (HK.out.a _ (.tail _ (.head _))).c4
                have qz0 := (HK.out.a _ (.head _)).c0
                have qz1 := (HK.out.a _ (.head _)).c1
                have qz2 := (HK.out.a _ (.head _)).c2
                have qz3 := (HK.out.a _ (.head _)).c3
                have qz4 := (HK.out.a _ (.head _)).c4
                go_wp2_with fail
                go_quiet (fail)
                generalize hW2 : World.drewN W2 _ = W3
                have hd2 : Below W2.heap.size W2 W3 := by rw [← hW2]; exact drewN_below _ _
                have HKn := Lib.hid (HK.out.next hd2)
                have g1_qz : W3.cell? ⟨bz, oz, none⟩ = some (.int .i64 (m : Int)) := (hd2.cell (p := ⟨bz, oz, none⟩) hb_qz).trans g_qz
                have hb1_qz : bz < W3.heap.size := Nat.lt_of_lt_of_le hb_qz hd2.size
                clear g_qz hb_qz
                have g_qz := g1_qz
                have hb_qz := hb1_qz
                clear g1_qz hb1_qz
                have g1_c : W3.cell? ⟨bc, oc + j, none⟩ = some (.int .i64 (m : Int)) := (hd2.cell (p := ⟨bc, oc + j, none⟩) hb_c).trans g_c
                have hb1_c : bc < W3.heap.size := Nat.lt_of_lt_of_le hb_c hd2.size
                clear g_c hb_c
                have g_c := g1_c
                have hb_c := hb1_c
                clear g1_c hb1_c
                have g1_qy : W3.cell? ⟨b_y, oy, none⟩ = some (.int .i64 yv) := (hd2.cell (p := ⟨b_y, oy, none⟩) hb_qy).trans g_qy
                have hb1_qy : b_y < W3.heap.size := Nat.lt_of_lt_of_le hb_qy hd2.size
                clear g_qy hb_qy
                have g_qy := g1_qy
                have hb_qy := hb1_qy
                clear g1_qy hb1_qy
                have g1_l : W3.cell? ⟨bl, ol + j, none⟩ = some (.int .i64 yv) := (hd2.cell (p := ⟨bl, ol + j, none⟩) hb_l).trans g_l
                have hb1_l : bl < W3.heap.size := Nat.lt_of_lt_of_le hb_l hd2.size
                clear g_l hb_l
                have g_l := g1_l
                have hb_l := hb1_l
                clear g1_l hb1_l
                clear HK hW2 hd2 s0 s1 s2 s3 s4 l0 l1 l2 l3 l4 c0 c1 c2 c3 c4 qx0 qx1 qx2 qx3 qx4 qy0 qy1 qy2 qy3 qy4 qz0 qz1 qz2 qz3 qz4
                have HK := HKn
                clear HKn
                have s0 := (HK.out.a _ (.tail _ (.tail _ (.tail _ (.tail _ (.tail _ (.tail _ (.head _)))))))).c0
                have s1 := (HK.out.a _ (.tail _ (.tail _ (.tail _ (.tail _ (.tail _ (.tail _ (.head _)))))))).c1
                have s2 := (HK.out.a _ (.tail _ (.tail _ (.tail _ (.tail _ (.tail _ (.tail _ (.head _)))))))).c2
                have s3 := (HK.out.a _ (.tail _ (.tail _ (.tail _ (.tail _ (.tail _ (.tail _ (.head _)))))))).c3
                have s4 := (HK.out.a _ (.tail _ (.tail _ (.tail _ (.tail _ (.tail _ (.tail _ (.head _)))))))).c4
                have l0 := (HK.out.a _ (.tail _ (.tail _ (.tail _ (.tail _ (.tail _ (.head _))))))).c0
                have l1 := (HK.out.a _ (.tail _ (.tail _ (.tail _ (.tail _ (.tail _ (.head _))))))).c1
                have l2 := (HK.out.a _ (.tail _ (.tail _ (.tail _ (.tail _ (.tail _ (.head _))))))).c2
                have l3 := (HK.out.a _ (.tail _ (.tail _ (.tail _ (.tail _ (.tail _ (.head _))))))).c3
                have l4 := (HK.out.a _ (.tail _ (.tail _ (.tail _ (.tail _ (.tail _ (.head _))))))).c4
                have c0 := (HK.out.a _ (.tail _ (.tail _ (.tail _ (.tail _ (.head _)))))).c0
                have c1 := (HK.out.a _ (.tail _ (.tail _ (.tail _ (.tail _ (.head _)))))).c1
                have c2 := (HK.out.a _ (.tail _ (.tail _ (.tail _ (.tail _ (.head _)))))).c2
                have c3 := (HK.out.a _ (.tail _ (.tail _ (.tail _ (.tail _ (.head _)))))).c3
                have c4 := (HK.out.a _ (.tail _ (.tail _ (.tail _ (.tail _ (.head _)))))).c4
                have qx0 := (HK.out.a _ (.tail _ (.tail _ (.head _)))).c0
                have qx1 := (HK.out.a _ (.tail _ (.tail _ (.head _)))).c1
                have qx2 := (HK.out.a _ (.tail _ (.tail _ (.head _)))).c2
                have qx3 := (HK.out.a _ (.tail _ (.tail _ (.head _)))).c3
                have qx4 := (HK.out.a _ (.tail _ (.tail _ (.head _)))).c4
                have qy0 := (HK.out.a _ (.tail _ (.head _))).c0
                have qy1 := (HK.out.a _ (.tail _ (.head _))).c1
                have qy2 := (HK.out.a _ (.tail _ (.head _))).c2
                have qy3 := (HK.out.a _ (.tail _ (.head _))).c3
                have qy4 := (HK.out.a _ (.tail _ (.head _))).c4
                have qz0 := (HK.out.a _ (.head _)).c0
                have qz1 := (HK.out.a _ (.head _)).c1
                have qz2 := (HK.out.a _ (.head _)).c2
                have qz3 := (HK.out.a _ (.head _)).c3
                have qz4 := (HK.out.a _ (.head _)).c4
                go_wp2_with fail
                go_roundg g2
                case measure => omega
                case rel => exact ⟨j + 1, _, _, by omega, rfl, rfl, by go_num, HFn.out, HGn.out, HK.out.drop (fun b m => by simp only [List.mem_cons, List.not_mem_nil, or_false] at m ⊢; rcases m with rfl | rfl | rfl | rfl <;> simp)⟩
      · skip
        have hnm : 0 < n ∧ m = 0 := by by_cases e : 0 < n ∧ m = 0; (· exact e); rw [HEL.out, if_neg e] at hf; exact absurd rfl hf
        obtain ⟨_, hm0⟩ := hnm
        have h13 : EL = 13 := by rw [HEL.out, if_pos ⟨by omega, hm0⟩]
        have hN13 : (if m = 0 then (13 : Int) else 0) = 13 := if_pos hm0
        have hev : enV 31 (vecA 1 row) = ⟨0, 0, 0, 0, []⟩ := orNo_no (by rw [(en_vec hGr2.out rfl 31).1, if_pos (by show row.length = 0; rw [HIl.out]; exact hm0)]; decide)
        rw [hev, hN13] at HQ2
        have hs := HZ0.out hm0
        have HGn : Hid ((13 : Int) = (if 0 < j + 1 ∧ m = 0 then 13 else 0)) := by unfold Hid; rw [if_pos ⟨by omega, hm0⟩]
        subst h13
        clear vN hN13 hev hLv HEL hf
        have hjs : j < sz.length := by rw [HSl.out hs]; exact hj
        have ks1 : decide ((sz.length : Int) ≤ (j : Int)) = false := decide_eq_false (by omega)
        have ks2 : decide (sz.length ≤ j) = false := decide_eq_false (by omega)
        obtain ⟨hSv1, hok⟩ := hSv hs
        have h20 : (sm1 row).2 = 0 := by rw [sm1_yes hok]
        have hq := (vR h20).2
        rw [hq, h20] at HQ1
        have HFn : Hid (E1 = feL (cs.take (j + 1))) := by unfold Hid; rw [hft, h20]; by_cases e : E1 = 0; (· rw [if_pos e]; exact e); rw [if_neg e]
        subst hs
        generalize row.sum = xv at HQ1 hSv1
        clear vR hq h20 hok hft hSv hsm
        by_cases hj0 : j = 0
        · have hE20 : E2 = 0 := by rw [HE2.out, if_neg (by omega)]
          subst hE20
          clear hj0 hm0
          as_aux_lemma =>
            go_wp2_with (first
              | (go_at_call 22; (with_reducible refine (HVc.out _ (HRd.out _ _ (by with_unfolding_all exact HK.out.r _ (.tail _ (.tail _ (.tail _ (.head _))))))).mono ?_); rintro e wr1 ⟨uwr1, rfl, hu, hb⟩; obtain ⟨pwr1, cwr1, hpwr1, _, _⟩ := hu.form; have hqwr1 : uwr1 = (.slice pwr1 m cwr1) := (by rw [hpwr1, HIl.out]); subst hqwr1; clear hpwr1; have hltcrow : wcn.heap.size < wr1.heap.size := Nat.lt_of_lt_of_le (HK.out.lt _ (.head _)) hb.size; have hltlrow : wb.heap.size < wr1.heap.size := Nat.lt_of_lt_of_le (HK.out.lt _ (.tail _ (.head _))) hb.size; have hltsrow : wa.heap.size < wr1.heap.size := Nat.lt_of_lt_of_le (HK.out.lt _ (.tail _ (.tail _ (.head _)))) hb.size; have hltxrow : w.heap.size < wr1.heap.size := Nat.lt_of_lt_of_le (HK.out.lt _ (.tail _ (.tail _ (.tail _ (.head _))))) hb.size; have HK2 := Lib.hid (HK.out.res hb ⟨1, 1, (m : Int), 0, row⟩ hu); clear HK x0 x1 x2 x3 x4 s0 s1 s2 s3 s4 l0 l1 l2 l3 l4 c0 c1 c2 c3 c4; have HK := HK2; clear HK2; clear hb hu; have x0 := (HK.out.a _ (.tail _ (.tail _ (.tail _ (.tail _ (.head _)))))).c0; have x1 := (HK.out.a _ (.tail _ (.tail _ (.tail _ (.tail _ (.head _)))))).c1; have x2 := (HK.out.a _ (.tail _ (.tail _ (.tail _ (.tail _ (.head _)))))).c2; have x3 := (HK.out.a _ (.tail _ (.tail _ (.tail _ (.tail _ (.head _)))))).c3; have x4 := (HK.out.a _ (.tail _ (.tail _ (.tail _ (.tail _ (.head _)))))).c4; have s0 := (HK.out.a _ (.tail _ (.tail _ (.tail _ (.head _))))).c0; have s1 := (HK.out.a _ (.tail _ (.tail _ (.tail _ (.head _))))).c1; have s2 := (HK.out.a _ (.tail _ (.tail _ (.tail _ (.head _))))).c2; have s3 := (HK.out.a _ (.tail _ (.tail _ (.tail _ (.head _))))).c3; have s4 := (HK.out.a _ (.tail _ (.tail _ (.tail _ (.head _))))).c4; have l0 := (HK.out.a _ (.tail _ (.tail _ (.head _)))).c0; have l1 := (HK.out.a _ (.tail _ (.tail _ (.head _)))).c1; have l2 := (HK.out.a _ (.tail _ (.tail _ (.head _)))).c2; have l3 := (HK.out.a _ (.tail _ (.tail _ (.head _)))).c3; have l4 := (HK.out.a _ (.tail _ (.tail _ (.head _)))).c4; have c0 := (HK.out.a _ (.tail _ (.head _))).c0; have c1 := (HK.out.a _ (.tail _ (.head _))).c1; have c2 := (HK.out.a _ (.tail _ (.head _))).c2; have c3 := (HK.out.a _ (.tail _ (.head _))).c3; have c4 := (HK.out.a _ (.tail _ (.head _))).c4; have row0 := (HK.out.a _ (.head _)).c0; have row1 := (HK.out.a _ (.head _)).c1; have row2 := (HK.out.a _ (.head _)).c2; have row3 := (HK.out.a _ (.head _)).c3; have row4 := (HK.out.a _ (.head _)).c4)
              | (go_at_call 26; (with_reducible refine (HQ1.out _ _ (by with_unfolding_all exact HK.out.lay) (by with_unfolding_all exact HK.out.r _ (.head _)) (by with_unfolding_all exact HK.out.n _ (.head _))).mono ?_); rintro e wr2 ⟨uwr2, rfl, hu, hb⟩; obtain ⟨pwr2, cwr2, hpwr2, _, _⟩ := hu.form; have hqwr2 : uwr2 = (.slice pwr2 1 cwr2) := hpwr2; subst hqwr2; clear hpwr2; have hltrowqx : wr1.heap.size < wr2.heap.size := Nat.lt_of_lt_of_le (HK.out.lt _ (.head _)) hb.size; have hltcqx : wcn.heap.size < wr2.heap.size := Nat.lt_of_lt_of_le (HK.out.lt _ (.tail _ (.head _))) hb.size; have hltlqx : wb.heap.size < wr2.heap.size := Nat.lt_of_lt_of_le (HK.out.lt _ (.tail _ (.tail _ (.head _)))) hb.size; have hltsqx : wa.heap.size < wr2.heap.size := Nat.lt_of_lt_of_le (HK.out.lt _ (.tail _ (.tail _ (.tail _ (.head _))))) hb.size; have hltxqx : w.heap.size < wr2.heap.size := Nat.lt_of_lt_of_le (HK.out.lt _ (.tail _ (.tail _ (.tail _ (.tail _ (.head _)))))) hb.size; have HK2 := Lib.hid (HK.out.res hb ⟨1, 0, 0, 0, [xv]⟩ hu); clear HK x0 x1 x2 x3 x4 s0 s1 s2 s3 s4 l0 l1 l2 l3 l4 c0 c1 c2 c3 c4 row0 row1 row2 row3 row4; have HK := HK2; clear HK2; clear hb hu; have x0 := (HK.out.a _ (.tail _ (.tail _ (.tail _ (.tail _ (.tail _ (.head _))))))).c0; have x1 := (HK.out.a _ (.tail _ (.tail _ (.tail _ (.tail _ (.tail _ (.head _))))))).c1; have x2 := (HK.out.a _ (.tail _ (.tail _ (.tail _ (.tail _ (.tail _ (.head _))))))).c2; have x3 := (HK.out.a _ (.tail _ (.tail _ (.tail _ (.tail _ (.tail _ (.head _))))))).c3; have x4 := (HK.out.a _ (.tail _ (.tail _ (.tail _ (.tail _ (.tail _ (.head _))))))).c4; have s0 := (HK.out.a _ (.tail _ (.tail _ (.tail _ (.tail _ (.head _)))))).c0; have s1 := (HK.out.a _ (.tail _ (.tail _ (.tail _ (.tail _ (.head _)))))).c1; have s2 := (HK.out.a _ (.tail _ (.tail _ (.tail _ (.tail _ (.head _)))))).c2; have s3 := (HK.out.a _ (.tail _ (.tail _ (.tail _ (.tail _ (.head _)))))).c3; have s4 := (HK.out.a _ (.tail _ (.tail _ (.tail _ (.tail _ (.head _)))))).c4; have l0 := (HK.out.a _ (.tail _ (.tail _ (.tail _ (.head _))))).c0; have l1 := (HK.out.a _ (.tail _ (.tail _ (.tail _ (.head _))))).c1; have l2 := (HK.out.a _ (.tail _ (.tail _ (.tail _ (.head _))))).c2; have l3 := (HK.out.a _ (.tail _ (.tail _ (.tail _ (.head _))))).c3; have l4 := (HK.out.a _ (.tail _ (.tail _ (.tail _ (.head _))))).c4; have c0 := (HK.out.a _ (.tail _ (.tail _ (.head _)))).c0; have c1 := (HK.out.a _ (.tail _ (.tail _ (.head _)))).c1; have c2 := (HK.out.a _ (.tail _ (.tail _ (.head _)))).c2; have c3 := (HK.out.a _ (.tail _ (.tail _ (.head _)))).c3; have c4 := (HK.out.a _ (.tail _ (.tail _ (.head _)))).c4; have row0 := (HK.out.a _ (.tail _ (.head _))).c0; have row1 := (HK.out.a _ (.tail _ (.head _))).c1; have row2 := (HK.out.a _ (.tail _ (.head _))).c2; have row3 := (HK.out.a _ (.tail _ (.head _))).c3; have row4 := (HK.out.a _ (.tail _ (.head _))).c4; have qx0 := (HK.out.a _ (.head _)).c0; have qx1 := (HK.out.a _ (.head _)).c1; have qx2 := (HK.out.a _ (.head _)).c2; have qx3 := (HK.out.a _ (.head _)).c3; have qx4 := (HK.out.a _ (.head _)).c4)
              | (go_at_call 30; (with_reducible refine (HQ2.out _ _ (by with_unfolding_all exact HK.out.lay) (by with_unfolding_all exact HK.out.r _ (.tail _ (.head _))) (by with_unfolding_all exact HK.out.n _ (.tail _ (.head _)))).mono ?_); rintro e wr3 ⟨uwr3, rfl, hu, hb⟩; obtain ⟨pwr3, cwr3, hpwr3, _, _⟩ := hu.form; have hqwr3 : uwr3 = (.slice pwr3 0 cwr3) := hpwr3; subst hqwr3; clear hpwr3; have hltqxqy : wr2.heap.size < wr3.heap.size := Nat.lt_of_lt_of_le (HK.out.lt _ (.head _)) hb.size; have hltrowqy : wr1.heap.size < wr3.heap.size := Nat.lt_of_lt_of_le (HK.out.lt _ (.tail _ (.head _))) hb.size; have hltcqy : wcn.heap.size < wr3.heap.size := Nat.lt_of_lt_of_le (HK.out.lt _ (.tail _ (.tail _ (.head _)))) hb.size; have hltlqy : wb.heap.size < wr3.heap.size := Nat.lt_of_lt_of_le (HK.out.lt _ (.tail _ (.tail _ (.tail _ (.head _))))) hb.size; have hltsqy : wa.heap.size < wr3.heap.size := Nat.lt_of_lt_of_le (HK.out.lt _ (.tail _ (.tail _ (.tail _ (.tail _ (.head _)))))) hb.size; have hltxqy : w.heap.size < wr3.heap.size := Nat.lt_of_lt_of_le (HK.out.lt _ (.tail _ (.tail _ (.tail _ (.tail _ (.tail _ (.head _))))))) hb.size; have HK2 := Lib.hid (HK.out.res hb ⟨0, 0, 0, 0, []⟩ hu); clear HK x0 x1 x2 x3 x4 s0 s1 s2 s3 s4 l0 l1 l2 l3 l4 c0 c1 c2 c3 c4 row0 row1 row2 row3 row4 qx0 qx1 qx2 qx3 qx4; have HK := HK2; clear HK2; clear hb hu; have x0 := (HK.out.a _ (.tail _ (.tail _ (.tail _ (.tail _ (.tail _ (.tail _ (.head _)))))))).c0; have x1 := (HK.out.a _ (.tail _ (.tail _ (.tail _ (.tail _ (.tail _ (.tail _ (.head _)))))))).c1; have x2 := (HK.out.a _ (.tail _ (.tail _ (.tail _ (.tail _ (.tail _ (.tail _ (.head _)))))))).c2; have x3 := (HK.out.a _ (.tail _ (.tail _ (.tail _ (.tail _ (.tail _ (.tail _ (.head _)))))))).c3; have x4 := (HK.out.a _ (.tail _ (.tail _ (.tail _ (.tail _ (.tail _ (.tail _ (.head _)))))))).c4; have s0 := (HK.out.a _ (.tail _ (.tail _ (.tail _ (.tail _ (.tail _ (.head _))))))).c0; have s1 := (HK.out.a _ (.tail _ (.tail _ (.tail _ (.tail _ (.tail _ (.head _))))))).c1; have s2 := (HK.out.a _ (.tail _ (.tail _ (.tail _ (.tail _ (.tail _ (.head _))))))).c2; have s3 := (HK.out.a _ (.tail _ (.tail _ (.tail _ (.tail _ (.tail _ (.head _))))))).c3; have s4 := (HK.out.a _ (.tail _ (.tail _ (.tail _ (.tail _ (.tail _ (.head _))))))).c4; have l0 := (HK.out.a _ (.tail _ (.tail _ (.tail _ (.tail _ (.head _)))))).c0; have l1 := (HK.out.a _ (.tail _ (.tail _ (.tail _ (.tail _ (.head _)))))).c1; have l2 := (HK.out.a _ (.tail _ (.tail _ (.tail _ (.tail _ (.head _)))))).c2; have l3 := (HK.out.a _ (.tail _ (.tail _ (.tail _ (.tail _ (.head _)))))).c3; have l4 := (HK.out.a _ (.tail _ (.tail _ (.tail _ (.tail _ (.head _)))))).c4; have c0 := (HK.out.a _ (.tail _ (.tail _ (.tail _ (.head _))))).c0; have c1 := (HK.out.a _ (.tail _ (.tail _ (.tail _ (.head _))))).c1; have c2 := (HK.out.a _ (.tail _ (.tail _ (.tail _ (.head _))))).c2; have c3 := (HK.out.a _ (.tail _ (.tail _ (.tail _ (.head _))))).c3; have c4 := (HK.out.a _ (.tail _ (.tail _ (.tail _ (.head _))))).c4; have row0 := (HK.out.a _ (.tail _ (.tail _ (.head _)))).c0; have row1 := (HK.out.a _ (.tail _ (.tail _ (.head _)))).c1; have row2 := (HK.out.a _ (.tail _ (.tail _ (.head _)))).c2; have row3 := (HK.out.a _ (.tail _ (.tail _ (.head _)))).c3; have row4 := (HK.out.a _ (.tail _ (.tail _ (.head _)))).c4; have qx0 := (HK.out.a _ (.tail _ (.head _))).c0; have qx1 := (HK.out.a _ (.tail _ (.head _))).c1; have qx2 := (HK.out.a _ (.tail _ (.head _))).c2; have qx3 := (HK.out.a _ (.tail _ (.head _))).c3; have qx4 := (HK.out.a _ (.tail _ (.head _))).c4; have qy0 := (HK.out.a _ (.head _)).c0; have qy1 := (HK.out.a _ (.head _)).c1; have qy2 := (HK.out.a _ (.head _)).c2; have qy3 := (HK.out.a _ (.head _)).c3; have qy4 := (HK.out.a _ (.head _)).c4)
              | (go_at_call 34; (with_reducible refine (HQ3.out _ _ (by with_unfolding_all exact HK.out.lay) (by with_unfolding_all exact HK.out.r _ (.tail _ (.tail _ (.head _)))) (by with_unfolding_all exact HK.out.n _ (.tail _ (.tail _ (.head _))))).mono ?_); rintro e wr4 ⟨uwr4, rfl, hu, hb⟩; obtain ⟨pwr4, cwr4, hpwr4, _, _⟩ := hu.form; have hqwr4 : uwr4 = (.slice pwr4 1 cwr4) := hpwr4; subst hqwr4; clear hpwr4; have hltqyqz : wr3.heap.size < wr4.heap.size := Nat.lt_of_lt_of_le (HK.out.lt _ (.head _)) hb.size; have hltqxqz : wr2.heap.size < wr4.heap.size := Nat.lt_of_lt_of_le (HK.out.lt _ (.tail _ (.head _))) hb.size; have hltrowqz : wr1.heap.size < wr4.heap.size := Nat.lt_of_lt_of_le (HK.out.lt _ (.tail _ (.tail _ (.head _)))) hb.size; have hltcqz : wcn.heap.size < wr4.heap.size := Nat.lt_of_lt_of_le (HK.out.lt _ (.tail _ (.tail _ (.tail _ (.head _))))) hb.size; have hltlqz : wb.heap.size < wr4.heap.size := Nat.lt_of_lt_of_le (HK.out.lt _ (.tail _ (.tail _ (.tail _ (.tail _ (.head _)))))) hb.size; have hltsqz : wa.heap.size < wr4.heap.size := Nat.lt_of_lt_of_le (HK.out.lt _ (.tail _ (.tail _ (.tail _ (.tail _ (.tail _ (.head _))))))) hb.size; have hltxqz : w.heap.size < wr4.heap.size := Nat.lt_of_lt_of_le (HK.out.lt _ (.tail _ (.tail _ (.tail _ (.tail _ (.tail _ (.tail _ (.head _)))))))) hb.size; have HK2 := Lib.hid (HK.out.res hb ⟨1, 0, 0, 0, [(m : Int)]⟩ hu); clear HK x0 x1 x2 x3 x4 s0 s1 s2 s3 s4 l0 l1 l2 l3 l4 c0 c1 c2 c3 c4 row0 row1 row2 row3 row4 qx0 qx1 qx2 qx3 qx4 qy0 qy1 qy2 qy3 qy4; have HK := HK2; clear HK2; clear hb hu; have x0 := (HK.out.a _ (.tail _ (.tail _ (.tail _ (.tail _ (.tail _ (.tail _ (.tail _ (.head _))))))))).c0; have x1 := (HK.out.a _ (.tail _ (.tail _ (.tail _ (.tail _ (.tail _ (.tail _ (.tail _ (.head _))))))))).c1; have x2 := (HK.out.a _ (.tail _ (.tail _ (.tail _ (.tail _ (.tail _ (.tail _ (.tail _ (.head _))))))))).c2; have x3 := (HK.out.a _ (.tail _ (.tail _ (.tail _ (.tail _ (.tail _ (.tail _ (.tail _ (.head _))))))))).c3; have x4 := (HK.out.a _ (.tail _ (.tail _ (.tail _ (.tail _ (.tail _ (.tail _ (.tail _ (.head _))))))))).c4; have s0 := (HK.out.a _ (.tail _ (.tail _ (.tail _ (.tail _ (.tail _ (.tail _ (.head _)))))))).c0; have s1 := (HK.out.a _ (.tail _ (.tail _ (.tail _ (.tail _ (.tail _ (.tail _ (.head _)))))))).c1; have s2 := (HK.out.a _ (.tail _ (.tail _ (.tail _ (.tail _ (.tail _ (.tail _ (.head _)))))))).c2; have s3 := (HK.out.a _ (.tail _ (.tail _ (.tail _ (.tail _ (.tail _ (.tail _ (.head _)))))))).c3; have s4 := (HK.out.a _ (.tail _ (.tail _ (.tail _ (.tail _ (.tail _ (.tail _ (.head _)))))))).c4; have l0 := (HK.out.a _ (.tail _ (.tail _ (.tail _ (.tail _ (.tail _ (.head _))))))).c0; have l1 := (HK.out.a _ (.tail _ (.tail _ (.tail _ (.tail _ (.tail _ (.head _))))))).c1; have l2 := (HK.out.a _ (.tail _ (.tail _ (.tail _ (.tail _ (.tail _ (.head _))))))).c2; have l3 := (HK.out.a _ (.tail _ (.tail _ (.tail _ (.tail _ (.tail _ (.head _))))))).c3; have l4 := (HK.out.a _ (.tail _ (.tail _ (.tail _ (.tail _ (.tail _ (.head _))))))).c4; have c0 := (HK.out.a _ (.tail _ (.tail _ (.tail _ (.tail _ (.head _)))))).c0; have c1 := (HK.out.a _ (.tail _ (.tail _ (.tail _ (.tail _ (.head _)))))).c1; have c2 := (HK.out.a _ (.tail _ (.tail _ (.tail _ (.tail _ (.head _)))))).c2; have c3 := (HK.out.a _ (.tail _ (.tail _ (.tail _ (.tail _ (.head _)))))).c3; have c4 := (HK.out.a _ (.tail _ (.tail _ (.tail _ (.tail _ (.head _)))))).c4; have row0 := (HK.out.a _ (.tail _ (.tail _ (.tail _ (.head _))))).c0; have row1 := (HK.out.a _ (.tail _ (.tail _ (.tail _ (.head _))))).c1; have row2 := (HK.out.a _ (.tail _ (.tail _ (.tail _ (.head _))))).c2; have row3 := (HK.out.a _ (.tail _ (.tail _ (.tail _ (.head _))))).c3; have row4 := (HK.out.a _ (.tail _ (.tail _ (.tail _ (.head _))))).c4; have qx0 := (HK.out.a _ (.tail _ (.tail _ (.head _)))).c0; have qx1 := (HK.out.a _ (.tail _ (.tail _ (.head _)))).c1; have qx2 := (HK.out.a _ (.tail _ (.tail _ (.head _)))).c2; have qx3 := (HK.out.a _ (.tail _ (.tail _ (.head _)))).c3; have qx4 := (HK.out.a _ (.tail _ (.tail _ (.head _)))).c4; have qy0 := (HK.out.a _ (.tail _ (.head _))).c0; have qy1 := (HK.out.a _ (.tail _ (.head _))).c1; have qy2 := (HK.out.a _ (.tail _ (.head _))).c2; have qy3 := (HK.out.a _ (.tail _ (.head _))).c3; have qy4 := (HK.out.a _ (.tail _ (.head _))).c4; have qz0 := (HK.out.a _ (.head _)).c0; have qz1 := (HK.out.a _ (.head _)).c1; have qz2 := (HK.out.a _ (.head _)).c2; have qz3 := (HK.out.a _ (.head _)).c3; have qz4 := (HK.out.a _ (.head _)).c4)
              | fail)
            generalize hWq : World.alloc wr4 _ = W0 at HK ⊢
            clear hWq x0 x1 x2 x3 x4 s0 s1 s2 s3 s4 l0 l1 l2 l3 l4 c0 c1 c2 c3 c4 row0 row1 row2 row3 row4 qx0 qx1 qx2 qx3 qx4 qy0 qy1 qy2 qy3 qy4 qz0 qz1 qz2 qz3 qz4
            obtain ⟨bz, oz, hp_qz, hb_qz, hc_qz⟩ := (HK.out.r _ (.head _)).cells (by simp)
            subst hp_qz
            have g_qz : W0.cell? ⟨bz, oz, none⟩ = some (.int .i64 (m : Int)) := by have := hc_qz 0 (by simp); rw [Nat.add_zero] at this; exact this
            clear hc_qz
            obtain ⟨bc, oc, hp_c, hb_c, hc_c⟩ := (HK.out.r _ (.tail _ (.tail _ (.tail _ (.tail _ (.head _)))))).cells (by intro e; have e2 : cz = [] := e; rw [e2] at hjc; simp at hjc)
            subst hp_c
            have g_c : W0.cell? ⟨bc, oc + j, none⟩ = some (.int .i64 cz[j]) := hc_c j hjc
            rw [← show cz.getD j 0 = cz[j] by simp [List.getD_eq_getElem?_getD, hjc], hCv] at g_c
            clear hc_c
            obtain ⟨bx, ox, hp_qx, hb_qx, hc_qx⟩ := (HK.out.r _ (.tail _ (.tail _ (.head _)))).cells (by simp)
            subst hp_qx
            have g_qx : W0.cell? ⟨bx, ox, none⟩ = some (.int .i64 xv) := by have := hc_qx 0 (by simp); rw [Nat.add_zero] at this; exact this
            clear hc_qx
            obtain ⟨bs, os, hp_s, hb_s, hc_s⟩ := (HK.out.r _ (.tail _ (.tail _ (.tail _ (.tail _ (.tail _ (.tail _ (.head _)))))))).cells (by intro e; have e2 : sz = [] := e; rw [e2] at hjs; simp at hjs)
            subst hp_s
            have g_s : W0.cell? ⟨bs, os + j, none⟩ = some (.int .i64 sz[j]) := hc_s j hjs
            rw [← show sz.getD j 0 = sz[j] by simp [List.getD_eq_getElem?_getD, hjs], hSv1] at g_s
            clear hc_s
            have s0 := (HK.out.a _ (.tail _ (.tail _ (.tail _ (.tail _ (.tail _ (.tail _ (.head _)))))))).c0
            have s1 := (HK.out.a _ (.tail _ (.tail _ (.tail _ (.tail _ (.tail _ (.tail _ (.head _)))))))).c1
            have s2 := (HK.out.a _ (.tail _ (.tail _ (.tail _ (.tail _ (.tail _ (.tail _ (.head _)))))))).c2
            have s3 := (HK.out.a _ (.tail _ (.tail _ (.tail _ (.tail _ (.tail _ (.tail _ (.head _)))))))).c3
            have s4 := (HK.out.a _ (.tail _ (.tail _ (.tail _ (.tail _ (.tail _ (.tail _ (.head _)))))))).c4
            have l0 := (HK.out.a _ (.tail _ (.tail _ (.tail _ (.tail _ (.tail _ (.head _))))))).c0
            have l1 := (HK.out.a _ (.tail _ (.tail _ (.tail _ (.tail _ (.tail _ (.head _))))))).c1
            have l2 := (HK.out.a _ (.tail _ (.tail _ (.tail _ (.tail _ (.tail _ (.head _))))))).c2
            have l3 := (HK.out.a _ (.tail _ (.tail _ (.tail _ (.tail _ (.tail _ (.head _))))))).c3
            have l4 := (HK.out.a _ (.tail _ (.tail _ (.tail _ (.tail _ (.tail _ (.head _))))))).c4
            have c0 := (HK.out.a _ (.tail _ (.tail _ (.tail _ (.tail _ (.head _)))))).c0
            have c1 := (HK.out.a _ (.tail _ (.tail _ (.tail _ (.tail _ (.head _)))))).c1
            have c2 := (HK.out.a _ (.tail _ (.tail _ (.tail _ (.tail _ (.head _)))))).c2
            have c3 := (HK.out.a _ (.tail _ (.tail _ (.tail _ (.tail _ (.head _)))))).c3
            have c4 := (HK.out.a _ (.tail _ (.tail _ (.tail _ (.tail _ (.head _)))))).c4
            have qx0 := (HK.out.a _ (.tail _ (.tail _ (.head _)))).c0
            have qx1 := (HK.out.a _ (.tail _ (.tail _ (.head _)))).c1
            have qx2 := (HK.out.a _ (.tail _ (.tail _ (.head _)))).c2
            have qx3 := (HK.out.a _ (.tail _ (.tail _ (.head _)))).c3
            have qx4 := (HK.out.a _ (.tail _ (.tail _ (.head _)))).c4
            have qy0 := (HK.out.a _ (.tail _ (.head _))).c0
            have qy1 := (HK.out.a _ (.tail _ (.head _))).c1
            have qy2 := (HK.out.a _ (.tail _ (.head _))).c2
            have qy3 := (HK.out.a _ (.tail _ (.head _))).c3
            have qy4 := (HK.out.a _ (.tail _ (.head _))).c4
            have qz0 := (HK.out.a _ (.head _)).c0
            have qz1 := (HK.out.a _ (.head _)).c1
            have qz2 := (HK.out.a _ (.head _)).c2
            have qz3 := (HK.out.a _ (.head _)).c3
            have qz4 := (HK.out.a _ (.head _)).c4
            go_wp2_with fail
            go_quiet (fail)
            generalize hW0 : World.drewN W0 _ = W1
            have hd0 : Below W0.heap.size W0 W1 := by rw [← hW0]; exact drewN_below _ _
            have HKn := Lib.hid (HK.out.next hd0)
            have g1_qz : W1.cell? ⟨bz, oz, none⟩ = some (.int .i64 (m : Int)) := (hd0.cell (p := ⟨bz, oz, none⟩) hb_qz).trans g_qz
            have hb1_qz : bz < W1.heap.size := Nat.lt_of_lt_of_le hb_qz hd0.size
            clear g_qz hb_qz
            have g_qz := g1_qz
            have hb_qz := hb1_qz
            clear g1_qz hb1_qz
            have g1_c : W1.cell? ⟨bc, oc + j, none⟩ = some (.int .i64 (m : Int)) := (hd0.cell (p := ⟨bc, oc + j, none⟩) hb_c).trans g_c
            have hb1_c : bc < W1.heap.size := Nat.lt_of_lt_of_le hb_c hd0.size
            clear g_c hb_c
            have g_c := g1_c
            have hb_c := hb1_c
            clear g1_c hb1_c
            have g1_qx : W1.cell? ⟨bx, ox, none⟩ = some (.int .i64 xv) := (hd0.cell (p := ⟨bx, ox, none⟩) hb_qx).trans g_qx
            have hb1_qx : bx < W1.heap.size := Nat.lt_of_lt_of_le hb_qx hd0.size
            clear g_qx hb_qx
            have g_qx := g1_qx
            have hb_qx := hb1_qx
            clear g1_qx hb1_qx
            have g1_s : W1.cell? ⟨bs, os + j, none⟩ = some (.int .i64 xv) := (hd0.cell (p := ⟨bs, os + j, none⟩) hb_s).trans g_s
            have hb1_s : bs < W1.heap.size := Nat.lt_of_lt_of_le hb_s hd0.size
            clear g_s hb_s
            have g_s := g1_s
            have hb_s := hb1_s
            clear g1_s hb1_s
            clear HK hW0 hd0 s0 s1 s2 s3 s4 l0 l1 l2 l3 l4 c0 c1 c2 c3 c4 qx0 qx1 qx2 qx3 qx4 qy0 qy1 qy2 qy3 qy4 qz0 qz1 qz2 qz3 qz4
            have HK := HKn
            clear HKn
            have s0 := (HK.out.a _ (.tail _ (.tail _ (.tail _ (.tail _ (.tail _ (.tail _ (.head _)))))))).c0
            have s1 := (HK.out.a _ (.tail _ (.tail _ (.tail _ (.tail _ (.tail _ (.tail _ (.head _)))))))).c1
            have s2 := (HK.out.a _ (.tail _ (.tail _ (.tail _ (.tail _ (.tail _ (.tail _ (.head _)))))))).c2
            have s3 := (HK.out.a _ (.tail _ (.tail _ (.tail _ (.tail _ (.tail _ (.tail _ (.head _)))))))).c3
            have s4 := (HK.out.a _ (.tail _ (.tail _ (.tail _ (.tail _ (.tail _ (.tail _ (.head _)))))))).c4
            have l0 := (HK.out.a _ (.tail _ (.tail _ (.tail _ (.tail _ (.tail _ (.head _))))))).c0
            have l1 := (HK.out.a _ (.tail _ (.tail _ (.tail _ (.tail _ (.tail _ (.head _))))))).c1
            have l2 := (HK.out.a _ (.tail _ (.tail _ (.tail _ (.tail _ (.tail _ (.head _))))))).c2
            have l3 := (HK.out.a _ (.tail _ (.tail _ (.tail _ (.tail _ (.tail _ (.head _))))))).c3
            have l4 := (HK.out.a _ (.tail _ (.tail _ (.tail _ (.tail _ (.tail _ (.head _))))))).c4
            have c0 := (HK.out.a _ (.tail _ (.tail _ (.tail _ (.tail _ (.head _)))))).c0
            have c1 := (HK.out.a _ (.tail _ (.tail _ (.tail _ (.tail _ (.head _)))))).c1
            have c2 := (HK.out.a _ (.tail _ (.tail _ (.tail _ (.tail _ (.head _)))))).c2
            have c3 := (HK.out.a _ (.tail _ (.tail _ (.tail _ (.tail _ (.head _)))))).c3
            have c4 := (HK.out.a _ (.tail _ (.tail _ (.tail _ (.tail _ (.head _)))))).c4
            have qx0 := (HK.out.a _ (.tail _ (.tail _ (.head _)))).c0
            have qx1 := (HK.out.a _ (.tail _ (.tail _ (.head _)))).c1
            have qx2 := (HK.out.a _ (.tail _ (.tail _ (.head _)))).c2
            have qx3 := (HK.out.a _ (.tail _ (.tail _ (.head _)))).c3
            have qx4 := (HK.out.a _ (.tail _ (.tail _ (.head _)))).c4
            have qy0 := (HK.out.a _ (.tail _ (.head _))).c0
            have qy1 := (HK.out.a _ (.tail _ (.head _))).c1
            have qy2 := (HK.out.a _ (.tail _ (.head _))).c2
            have qy3 := (HK.out.a _ (.tail _ (.head _))).c3
            have qy4 := (HK.out.a _ (.tail _ (.head _))).c4
            have qz0 := (HK.out.a _ (.head _)).c0
            have qz1 := (HK.out.a _ (.head _)).c1
            have qz2 := (HK.out.a _ (.head _)).c2
            have qz3 := (HK.out.a _ (.head _)).c3
            have qz4 := (HK.out.a _ (.head _)).c4
            go_wp2_with fail
            go_quiet (fail)
            generalize hW1 : World.drewN W1 _ = W2
            have hd1 : Below W1.heap.size W1 W2 := by rw [← hW1]; exact drewN_below _ _
            have HKn := Lib.hid (HK.out.next hd1)
            have g1_qz : W2.cell? ⟨bz, oz, none⟩ = some (.int .i64 (m : Int)) := (hd1.cell (p := ⟨bz, oz, none⟩) hb_qz).trans g_qz
            have hb1_qz : bz < W2.heap.size := Nat.lt_of_lt_of_le hb_qz hd1.size
            clear g_qz hb_qz
            have g_qz := g1_qz
            have hb_qz := hb1_qz
            clear g1_qz hb1_qz
            have g1_c : W2.cell? ⟨bc, oc + j, none⟩ = some (.int .i64 (m : Int)) := (hd1.cell (p := ⟨bc, oc + j, none⟩) hb_c).trans g_c
            have hb1_c : bc < W2.heap.size := Nat.lt_of_lt_of_le hb_c hd1.size
            clear g_c hb_c
            have g_c := g1_c
            have hb_c := hb1_c
            clear g1_c hb1_c
            have g1_qx : W2.cell? ⟨bx, ox, none⟩ = some (.int .i64 xv) := (hd1.cell (p := ⟨bx, ox, none⟩) hb_qx).trans g_qx
            have hb1_qx : bx < W2.heap.size := Nat.lt_of_lt_of_le hb_qx hd1.size
            clear g_qx hb_qx
            have g_qx := g1_qx
            have hb_qx := hb1_qx
            clear g1_qx hb1_qx
            have g1_s : W2.cell? ⟨bs, os + j, none⟩ = some (.int .i64 xv) := (hd1.cell (p := ⟨bs, os + j, none⟩) hb_s).trans g_s
            have hb1_s : bs < W2.heap.size := Nat.lt_of_lt_of_le hb_s hd1.size
            clear g_s hb_s
            have g_s := g1_s
            have hb_s := hb1_s
            clear g1_s hb1_s
            clear HK hW1 hd1 s0 s1 s2 s3 s4 l0 l1 l2 l3 l4 c0 c1 c2 c3 c4 qx0 qx1 qx2 qx3 qx4 qy0 qy1 qy2 qy3 qy4 qz0 qz1 qz2 qz3 qz4
            have HK := HKn
            clear HKn
            have s0 := (HK.out.a _ (.tail _ (.tail _ (.tail _ (.tail _ (.tail _ (.tail _ (.head _)))))))).c0
            have s1 := (HK.out.a _ (.tail _ (.tail _ (.tail _ (.tail _ (.tail _ (.tail _ (.head _)))))))).c1
            have s2 := (HK.out.a _ (.tail _ (.tail _ (.tail _ (.tail _ (.tail _ (.tail _ (.head _)))))))).c2
            have s3 := (HK.out.a _ (.tail _ (.tail _ (.tail _ (.tail _ (.tail _ (.tail _ (.head _)))))))).c3
            have s4 := (HK.out.a _ (.tail _ (.tail _ (.tail _ (.tail _ (.tail _ (.tail _ (.head _)))))))).c4
            have l0 := (HK.out.a _ (.tail _ (.tail _ (.tail _ (.tail _ (.tail _ (.head _))))))).c0
            have l1 := (HK.out.a _ (.tail _ (.tail _ (.tail _ (.tail _ (.tail _ (.head _))))))).c1
            have l2 := (HK.out.a _ (.tail _ (.tail _ (.tail _ (.tail _ (.tail _ (.head _))))))).c2
            have l3 := (HK.out.a _ (.tail _ (.tail _ (.tail _ (.tail _ (.tail _ (.head _))))))).c3
            have l4 := (HK.out.a _ (.tail _ (.tail _ (.tail _ (.tail _ (.tail _ (.head _))))))).c4
            have c0 := (HK.out.a _ (.tail _ (.tail _ (.tail _ (.tail _ (.head _)))))).c0
            have c1 := (HK.out.a _ (.tail _ (.tail _ (.tail _ (.tail _ (.head _)))))).c1
            have c2 := (HK.out.a _ (.tail _ (.tail _ (.tail _ (.tail _ (.head _)))))).c2
            have c3 := (HK.out.a _ (.tail _ (.tail _ (.tail _ (.tail _ (.head _)))))).c3
            have c4 := (HK.out.a _ (.tail _ (.tail _ (.tail _ (.tail _ (.head _)))))).c4
            have qx0 := (HK.out.a _ (.tail _ (.tail _ (.head _)))).c0
            have qx1 := (HK.out.a _ (.tail _ (.tail _ (.head _)))).c1
            have qx2 := (HK.out.a _ (.tail _ (.tail _ (.head _)))).c2
            have qx3 := (HK.out.a _ (.tail _ (.tail _ (.head _)))).c3
            have qx4 := (HK.out.a _ (.tail _ (.tail _ (.head _)))).c4
            have qy0 := (HK.out.a _ (.tail _ (.head _))).c0
            have qy1 := (HK.out.a _ (.tail _ (.head _))).c1
            have qy2 := (HK.out.a _ (.tail _ (.head _))).c2
            have qy3 := (HK.out.a _ (.tail _ (.head _))).c3
            have qy4 := (HK.out.a _ (.tail _ (.head _))).c4
            have qz0 := (HK.out.a _ (.head _)).c0
            have qz1 := (HK.out.a _ (.head _)).c1
            have qz2 := (HK.out.a _ (.head _)).c2
            have qz3 := (HK.out.a _ (.head _)).c3
            have qz4 := (HK.out.a _ (.head _)).c4
            go_wp2_with fail
            go_quiet (fail)
            generalize hW2 : World.drewN W2 _ = W3
            have hd2 : Below W2.heap.size W2 W3 := by rw [← hW2]; exact drewN_below _ _
            have HKn := Lib.hid (HK.out.next hd2)
            have g1_qz : W3.cell? ⟨bz, oz, none⟩ = some (.int .i64 (m : Int)) := (hd2.cell (p := ⟨bz, oz, none⟩) hb_qz).trans g_qz
            have hb1_qz : bz < W3.heap.size := Nat.lt_of_lt_of_le hb_qz hd2.size
            clear g_qz hb_qz
            have g_qz := g1_qz
            have hb_qz := hb1_qz
            clear g1_qz hb1_qz
            have g1_c : W3.cell? ⟨bc, oc + j, none⟩ = some (.int .i64 (m : Int)) := (hd2.cell (p := ⟨bc, oc + j, none⟩) hb_c).trans g_c
            have hb1_c : bc < W3.heap.size := Nat.lt_of_lt_of_le hb_c hd2.size
            clear g_c hb_c
            have g_c := g1_c
            have hb_c := hb1_c
            clear g1_c hb1_c
            have g1_qx : W3.cell? ⟨bx, ox, none⟩ = some (.int .i64 xv) := (hd2.cell (p := ⟨bx, ox, none⟩) hb_qx).trans g_qx
            have hb1_qx : bx < W3.heap.size := Nat.lt_of_lt_of_le hb_qx hd2.size
            clear g_qx hb_qx
            have g_qx := g1_qx
            have hb_qx := hb1_qx
            clear g1_qx hb1_qx
            have g1_s : W3.cell? ⟨bs, os + j, none⟩ = some (.int .i64 xv) := (hd2.cell (p := ⟨bs, os + j, none⟩) hb_s).trans g_s
            have hb1_s : bs < W3.heap.size := Nat.lt_of_lt_of_le hb_s hd2.size
            clear g_s hb_s
            have g_s := g1_s
            have hb_s := hb1_s
            clear g1_s hb1_s
            clear HK hW2 hd2 s0 s1 s2 s3 s4 l0 l1 l2 l3 l4 c0 c1 c2 c3 c4 qx0 qx1 qx2 qx3 qx4 qy0 qy1 qy2 qy3 qy4 qz0 qz1 qz2 qz3 qz4
            have HK := HKn
            clear HKn
            have s0 := (HK.out.a _ (.tail _ (.tail _ (.tail _ (.tail _ (.tail _ (.tail _ (.head _)))))))).c0
            have s1 := (HK.out.a _ (.tail _ (.tail _ (.tail _ (.tail _ (.tail _ (.tail _ (.head _)))))))).c1
            have s2 := (HK.out.a _ (.tail _ (.tail _ (.tail _ (.tail _ (.tail _ (.tail _ (.head _)))))))).c2
            have s3 := (HK.out.a _ (.tail _ (.tail _ (.tail _ (.tail _ (.tail _ (.tail _ (.head _)))))))).c3
            have s4 := (HK.out.a _ (.tail _ (.tail _ (.tail _ (.tail _ (.tail _ (.tail _ (.head _)))))))).c4
            have l0 := (HK.out.a _ (.tail _ (.tail _ (.tail _ (.tail _ (.tail _ (.head _))))))).c0
            have l1 := (HK.out.a _ (.tail _ (.tail _ (.tail _ (.tail _ (.tail _ (.head _))))))).c1
            have l2 := (HK.out.a _ (.tail _ (.tail _ (.tail _ (.tail _ (.tail _ (.head _))))))).c2
            have l3 := (HK.out.a _ (.tail _ (.tail _ (.tail _ (.tail _ (.tail _ (.head _))))))).c3
            have l4 := (HK.out.a _ (.tail _ (.tail _ (.tail _ (.tail _ (.tail _ (.head _))))))).c4
            have c0 := (HK.out.a _ (.tail _ (.tail _ (.tail _ (.tail _ (.head _)))))).c0
            have c1 := (HK.out.a _ (.tail _ (.tail _ (.tail _ (.tail _ (.head _)))))).c1
            have c2 := (HK.out.a _ (.tail _ (.tail _ (.tail _ (.tail _ (.head _)))))).c2
            have c3 := (HK.out.a _ (.tail _ (.tail _ (.tail _ (.tail _ (.head _)))))).c3
            have c4 := (HK.out.a _ (.tail _ (.tail _ (.tail _ (.tail _ (.head _)))))).c4
            have qx0 := (HK.out.a _ (.tail _ (.tail _ (.head _)))).c0
            have qx1 := (HK.out.a _ (.tail _ (.tail _ (.head _)))).c1
            have qx2 := (HK.out.a _ (.tail _ (.tail _ (.head _)))).c2
            have qx3 := (HK.out.a _ (.tail _ (.tail _ (.head _)))).c3
            have qx4 := (HK.out.a _ (.tail _ (.tail _ (.head _)))).c4
            have qy0 := (HK.out.a _ (.tail _ (.head _))).c0
            have qy1 := (HK.out.a _ (.tail _ (.head _))).c1
            have qy2 := (HK.out.a _ (.tail _ (.head _))).c2
            have qy3 := (HK.out.a _ (.tail _ (.head _))).c3
            have qy4 := (HK.out.a _ (.tail _ (.head _))).c4
            have qz0 := (HK.out.a _ (.head _)).c0
            have qz1 := (HK.out.a _ (.head _)).c1
            have qz2 := (HK.out.a _ (.head _)).c2
            have qz3 := (HK.out.a _ (.head _)).c3
            have qz4 := (HK.out.a _ (.head _)).c4
            go_wp2_with fail
            go_roundg g2
            case measure => omega
            case rel => exact ⟨j + 1, _, _, by omega, rfl, rfl, by go_num, HFn.out, HGn.out, HK.out.drop (fun b m => by simp only [List.mem_cons, List.not_mem_nil, or_false] at m ⊢; rcases m with rfl | rfl | rfl | rfl <;> simp)⟩
        · have hE20 : E2 = 13 := by rw [HE2.out, if_pos ⟨by omega, hm0⟩]
          subst hE20
          clear hj0 hm0
          as_aux_lemma =>
            go_wp2_with (first
              | (go_at_call 22; (with_reducible refine (HVc.out _ (HRd.out _ _ (by with_unfolding_all exact HK.out.r _ (.tail _ (.tail _ (.tail _ (.head _))))))).mono ?_); rintro e wr1 ⟨uwr1, rfl, hu, hb⟩; obtain ⟨pwr1, cwr1, hpwr1, _, _⟩ := hu.form; have hqwr1 : uwr1 = (.slice pwr1 m cwr1) := (by rw [hpwr1, HIl.out]); subst hqwr1; clear hpwr1; have hltcrow : wcn.heap.size < wr1.heap.size := Nat.lt_of_lt_of_le (HK.out.lt _ (.head _)) hb.size; have hltlrow : wb.heap.size < wr1.heap.size := Nat.lt_of_lt_of_le (HK.out.lt _ (.tail _ (.head _))) hb.size; have hltsrow : wa.heap.size < wr1.heap.size := Nat.lt_of_lt_of_le (HK.out.lt _ (.tail _ (.tail _ (.head _)))) hb.size; have hltxrow : w.heap.size < wr1.heap.size := Nat.lt_of_lt_of_le (HK.out.lt _ (.tail _ (.tail _ (.tail _ (.head _))))) hb.size; have HK2 := Lib.hid (HK.out.res hb ⟨1, 1, (m : Int), 0, row⟩ hu); clear HK x0 x1 x2 x3 x4 s0 s1 s2 s3 s4 l0 l1 l2 l3 l4 c0 c1 c2 c3 c4; have HK := HK2; clear HK2; clear hb hu; have x0 := (HK.out.a _ (.tail _ (.tail _ (.tail _ (.tail _ (.head _)))))).c0; have x1 := (HK.out.a _ (.tail _ (.tail _ (.tail _ (.tail _ (.head _)))))).c1; have x2 := (HK.out.a _ (.tail _ (.tail _ (.tail _ (.tail _ (.head _)))))).c2; have x3 := (HK.out.a _ (.tail _ (.tail _ (.tail _ (.tail _ (.head _)))))).c3; have x4 := (HK.out.a _ (.tail _ (.tail _ (.tail _ (.tail _ (.head _)))))).c4; have s0 := (HK.out.a _ (.tail _ (.tail _ (.tail _ (.head _))))).c0; have s1 := (HK.out.a _ (.tail _ (.tail _ (.tail _ (.head _))))).c1; have s2 := (HK.out.a _ (.tail _ (.tail _ (.tail _ (.head _))))).c2; have s3 := (HK.out.a _ (.tail _ (.tail _ (.tail _ (.head _))))).c3; have s4 := (HK.out.a _ (.tail _ (.tail _ (.tail _ (.head _))))).c4; have l0 := (HK.out.a _ (.tail _ (.tail _ (.head _)))).c0; have l1 := (HK.out.a _ (.tail _ (.tail _ (.head _)))).c1; have l2 := (HK.out.a _ (.tail _ (.tail _ (.head _)))).c2; have l3 := (HK.out.a _ (.tail _ (.tail _ (.head _)))).c3; have l4 := (HK.out.a _ (.tail _ (.tail _ (.head _)))).c4; have c0 := (HK.out.a _ (.tail _ (.head _))).c0; have c1 := (HK.out.a _ (.tail _ (.head _))).c1; have c2 := (HK.out.a _ (.tail _ (.head _))).c2; have c3 := (HK.out.a _ (.tail _ (.head _))).c3; have c4 := (HK.out.a _ (.tail _ (.head _))).c4; have row0 := (HK.out.a _ (.head _)).c0; have row1 := (HK.out.a _ (.head _)).c1; have row2 := (HK.out.a _ (.head _)).c2; have row3 := (HK.out.a _ (.head _)).c3; have row4 := (HK.out.a _ (.head _)).c4)
              | (go_at_call 26; (with_reducible refine (HQ1.out _ _ (by with_unfolding_all exact HK.out.lay) (by with_unfolding_all exact HK.out.r _ (.head _)) (by with_unfolding_all exact HK.out.n _ (.head _))).mono ?_); rintro e wr2 ⟨uwr2, rfl, hu, hb⟩; obtain ⟨pwr2, cwr2, hpwr2, _, _⟩ := hu.form; have hqwr2 : uwr2 = (.slice pwr2 1 cwr2) := hpwr2; subst hqwr2; clear hpwr2; have hltrowqx : wr1.heap.size < wr2.heap.size := Nat.lt_of_lt_of_le (HK.out.lt _ (.head _)) hb.size; have hltcqx : wcn.heap.size < wr2.heap.size := Nat.lt_of_lt_of_le (HK.out.lt _ (.tail _ (.head _))) hb.size; have hltlqx : wb.heap.size < wr2.heap.size := Nat.lt_of_lt_of_le (HK.out.lt _ (.tail _ (.tail _ (.head _)))) hb.size; have hltsqx : wa.heap.size < wr2.heap.size := Nat.lt_of_lt_of_le (HK.out.lt _ (.tail _ (.tail _ (.tail _ (.head _))))) hb.size; have hltxqx : w.heap.size < wr2.heap.size := Nat.lt_of_lt_of_le (HK.out.lt _ (.tail _ (.tail _ (.tail _ (.tail _ (.head _)))))) hb.size; have HK2 := Lib.hid (HK.out.res hb ⟨1, 0, 0, 0, [xv]⟩ hu); clear HK x0 x1 x2 x3 x4 s0 s1 s2 s3 s4 l0 l1 l2 l3 l4 c0 c1 c2 c3 c4 row0 row1 row2 row3 row4; have HK := HK2; clear HK2; clear hb hu; have x0 := (HK.out.a _ (.tail _ (.tail _ (.tail _ (.tail _ (.tail _ (.head _))))))).c0; have x1 := (HK.out.a _ (.tail _ (.tail _ (.tail _ (.tail _ (.tail _ (.head _))))))).c1; have x2 := (HK.out.a _ (.tail _ (.tail _ (.tail _ (.tail _ (.tail _ (.head _))))))).c2; have x3 := (HK.out.a _ (.tail _ (.tail _ (.tail _ (.tail _ (.tail _ (.head _))))))).c3; have x4 := (HK.out.a _ (.tail _ (.tail _ (.tail _ (.tail _ (.tail _ (.head _))))))).c4; have s0 := (HK.out.a _ (.tail _ (.tail _ (.tail _ (.tail _ (.head _)))))).c0; have s1 := (HK.out.a _ (.tail _ (.tail _ (.tail _ (.tail _ (.head _)))))).c1; have s2 := (HK.out.a _ (.tail _ (.tail _ (.tail _ (.tail _ (.head _)))))).c2; have s3 := (HK.out.a _ (.tail _ (.tail _ (.tail _ (.tail _ (.head _)))))).c3; have s4 := (HK.out.a _ (.tail _ (.tail _ (.tail _ (.tail _ (.head _)))))).c4; have l0 := (HK.out.a _ (.tail _ (.tail _ (.tail _ (.head _))))).c0; have l1 := (HK.out.a _ (.tail _ (.tail _ (.tail _ (.head _))))).c1; have l2 := (HK.out.a _ (.tail _ (.tail _ (.tail _ (.head _))))).c2; have l3 := (HK.out.a _ (.tail _ (.tail _ (.tail _ (.head _))))).c3; have l4 := (HK.out.a _ (.tail _ (.tail _ (.tail _ (.head _))))).c4; have c0 := (HK.out.a _ (.tail _ (.tail _ (.head _)))).c0; have c1 := (HK.out.a _ (.tail _ (.tail _ (.head _)))).c1; have c2 := (HK.out.a _ (.tail _ (.tail _ (.head _)))).c2; have c3 := (HK.out.a _ (.tail _ (.tail _ (.head _)))).c3; have c4 := (HK.out.a _ (.tail _ (.tail _ (.head _)))).c4; have row0 := (HK.out.a _ (.tail _ (.head _))).c0; have row1 := (HK.out.a _ (.tail _ (.head _))).c1; have row2 := (HK.out.a _ (.tail _ (.head _))).c2; have row3 := (HK.out.a _ (.tail _ (.head _))).c3; have row4 := (HK.out.a _ (.tail _ (.head _))).c4; have qx0 := (HK.out.a _ (.head _)).c0; have qx1 := (HK.out.a _ (.head _)).c1; have qx2 := (HK.out.a _ (.head _)).c2; have qx3 := (HK.out.a _ (.head _)).c3; have qx4 := (HK.out.a _ (.head _)).c4)
              | (go_at_call 30; (with_reducible refine (HQ2.out _ _ (by with_unfolding_all exact HK.out.lay) (by with_unfolding_all exact HK.out.r _ (.tail _ (.head _))) (by with_unfolding_all exact HK.out.n _ (.tail _ (.head _)))).mono ?_); rintro e wr3 ⟨uwr3, rfl, hu, hb⟩; obtain ⟨pwr3, cwr3, hpwr3, _, _⟩ := hu.form; have hqwr3 : uwr3 = (.slice pwr3 0 cwr3) := hpwr3; subst hqwr3; clear hpwr3; have hltqxqy : wr2.heap.size < wr3.heap.size := Nat.lt_of_lt_of_le (HK.out.lt _ (.head _)) hb.size; have hltrowqy : wr1.heap.size < wr3.heap.size := Nat.lt_of_lt_of_le (HK.out.lt _ (.tail _ (.head _))) hb.size; have hltcqy : wcn.heap.size < wr3.heap.size := Nat.lt_of_lt_of_le (HK.out.lt _ (.tail _ (.tail _ (.head _)))) hb.size; have hltlqy : wb.heap.size < wr3.heap.size := Nat.lt_of_lt_of_le (HK.out.lt _ (.tail _ (.tail _ (.tail _ (.head _))))) hb.size; have hltsqy : wa.heap.size < wr3.heap.size := Nat.lt_of_lt_of_le (HK.out.lt _ (.tail _ (.tail _ (.tail _ (.tail _ (.head _)))))) hb.size; have hltxqy : w.heap.size < wr3.heap.size := Nat.lt_of_lt_of_le (HK.out.lt _ (.tail _ (.tail _ (.tail _ (.tail _ (.tail _ (.head _))))))) hb.size; have HK2 := Lib.hid (HK.out.res hb ⟨0, 0, 0, 0, []⟩ hu); clear HK x0 x1 x2 x3 x4 s0 s1 s2 s3 s4 l0 l1 l2 l3 l4 c0 c1 c2 c3 c4 row0 row1 row2 row3 row4 qx0 qx1 qx2 qx3 qx4; have HK := HK2; clear HK2; clear hb hu; have x0 := (HK.out.a _ (.tail _ (.tail _ (.tail _ (.tail _ (.tail _ (.tail _ (.head _)))))))).c0; have x1 := (HK.out.a _ (.tail _ (.tail _ (.tail _ (.tail _ (.tail _ (.tail _ (.head _)))))))).c1; have x2 := (HK.out.a _ (.tail _ (.tail _ (.tail _ (.tail _ (.tail _ (.tail _ (.head _)))))))).c2; have x3 := (HK.out.a _ (.tail _ (.tail _ (.tail _ (.tail _ (.tail _ (.tail _ (.head _)))))))).c3; have x4 := (HK.out.a _ (.tail _ (.tail _ (.tail _ (.tail _ (.tail _ (.tail _ (.head _)))))))).c4; have s0 := (HK.out.a _ (.tail _ (.tail _ (.tail _ (.tail _ (.tail _ (.head _))))))).c0; have s1 := (HK.out.a _ (.tail _ (.tail _ (.tail _ (.tail _ (.tail _ (.head _))))))).c1; have s2 := (HK.out.a _ (.tail _ (.tail _ (.tail _ (.tail _ (.tail _ (.head _))))))).c2; have s3 := (HK.out.a _ (.tail _ (.tail _ (.tail _ (.tail _ (.tail _ (.head _))))))).c3; have s4 := (HK.out.a _ (.tail _ (.tail _ (.tail _ (.tail _ (.tail _ (.head _))))))).c4; have l0 := (HK.out.a _ (.tail _ (.tail _ (.tail _ (.tail _ (.head _)))))).c0; have l1 := (HK.out.a _ (.tail _ (.tail _ (.tail _ (.tail _ (.head _)))))).c1; have l2 := (HK.out.a _ (.tail _ (.tail _ (.tail _ (.tail _ (.head _)))))).c2; have l3 := (HK.out.a _ (.tail _ (.tail _ (.tail _ (.tail _ (.head _)))))).c3; have l4 := (HK.out.a _ (.tail _ (.tail _ (.tail _ (.tail _ (.head _)))))).c4; have c0 := (HK.out.a _ (.tail _ (.tail _ (.tail _ (.head _))))).c0; have c1 := (HK.out.a _ (.tail _ (.tail _ (.tail _ (.head _))))).c1; have c2 := (HK.out.a _ (.tail _ (.tail _ (.tail _ (.head _))))).c2; have c3 := (HK.out.a _ (.tail _ (.tail _ (.tail _ (.head _))))).c3; have c4 := (HK.out.a _ (.tail _ (.tail _ (.tail _ (.head _))))).c4; have row0 := (HK.out.a _ (.tail _ (.tail _ (.head _)))).c0; have row1 := (HK.out.a _ (.tail _ (.tail _ (.head _)))).c1; have row2 := (HK.out.a _ (.tail _ (.tail _ (.head _)))).c2; have row3 := (HK.out.a _ (.tail _ (.tail _ (.head _)))).c3; have row4 := (HK.out.a _ (.tail _ (.tail _ (.head _)))).c4; have qx0 := (HK.out.a _ (.tail _ (.head _))).c0; have qx1 := (HK.out.a _ (.tail _ (.head _))).c1; have qx2 := (HK.out.a _ (.tail _ (.head _))).c2; have qx3 := (HK.out.a _ (.tail _ (.head _))).c3; have qx4 := (HK.out.a _ (.tail _ (.head _))).c4; have qy0 := (HK.out.a _ (.head _)).c0; have qy1 := (HK.out.a _ (.head _)).c1; have qy2 := (HK.out.a _ (.head _)).c2; have qy3 := (HK.out.a _ (.head _)).c3; have qy4 := (HK.out.a _ (.head _)).c4)
              | (go_at_call 34; (with_reducible refine (HQ3.out _ _ (by with_unfolding_all exact HK.out.lay) (by with_unfolding_all exact HK.out.r _ (.tail _ (.tail _ (.head _)))) (by with_unfolding_all exact HK.out.n _ (.tail _ (.tail _ (.head _))))).mono ?_); rintro e wr4 ⟨uwr4, rfl, hu, hb⟩; obtain ⟨pwr4, cwr4, hpwr4, _, _⟩ := hu.form; have hqwr4 : uwr4 = (.slice pwr4 1 cwr4) := hpwr4; subst hqwr4; clear hpwr4; have hltqyqz : wr3.heap.size < wr4.heap.size := Nat.lt_of_lt_of_le (HK.out.lt _ (.head _)) hb.size; have hltqxqz : wr2.heap.size < wr4.heap.size := Nat.lt_of_lt_of_le (HK.out.lt _ (.tail _ (.head _))) hb.size; have hltrowqz : wr1.heap.size < wr4.heap.size := Nat.lt_of_lt_of_le (HK.out.lt _ (.tail _ (.tail _ (.head _)))) hb.size; have hltcqz : wcn.heap.size < wr4.heap.size := Nat.lt_of_lt_of_le (HK.out.lt _ (.tail _ (.tail _ (.tail _ (.head _))))) hb.size; have hltlqz : wb.heap.size < wr4.heap.size := Nat.lt_of_lt_of_le (HK.out.lt _ (.tail _ (.tail _ (.tail _ (.tail _ (.head _)))))) hb.size; have hltsqz : wa.heap.size < wr4.heap.size := Nat.lt_of_lt_of_le (HK.out.lt _ (.tail _ (.tail _ (.tail _ (.tail _ (.tail _ (.head _))))))) hb.size; have hltxqz : w.heap.size < wr4.heap.size := Nat.lt_of_lt_of_le (HK.out.lt _ (.tail _ (.tail _ (.tail _ (.tail _ (.tail _ (.tail _ (.head _)))))))) hb.size; have HK2 := Lib.hid (HK.out.res hb ⟨1, 0, 0, 0, [(m : Int)]⟩ hu); clear HK x0 x1 x2 x3 x4 s0 s1 s2 s3 s4 l0 l1 l2 l3 l4 c0 c1 c2 c3 c4 row0 row1 row2 row3 row4 qx0 qx1 qx2 qx3 qx4 qy0 qy1 qy2 qy3 qy4; have HK := HK2; clear HK2; clear hb hu; have x0 := (HK.out.a _ (.tail _ (.tail _ (.tail _ (.tail _ (.tail _ (.tail _ (.tail _ (.head _))))))))).c0; have x1 := (HK.out.a _ (.tail _ (.tail _ (.tail _ (.tail _ (.tail _ (.tail _ (.tail _ (.head _))))))))).c1; have x2 := (HK.out.a _ (.tail _ (.tail _ (.tail _ (.tail _ (.tail _ (.tail _ (.tail _ (.head _))))))))).c2; have x3 := (HK.out.a _ (.tail _ (.tail _ (.tail _ (.tail _ (.tail _ (.tail _ (.tail _ (.head _))))))))).c3; have x4 := (HK.out.a _ (.tail _ (.tail _ (.tail _ (.tail _ (.tail _ (.tail _ (.tail _ (.head _))))))))).c4; have s0 := (HK.out.a _ (.tail _ (.tail _ (.tail _ (.tail _ (.tail _ (.tail _ (.head _)))))))).c0; have s1 := (HK.out.a _ (.tail _ (.tail _ (.tail _ (.tail _ (.tail _ (.tail _ (.head _)))))))).c1; have s2 := (HK.out.a _ (.tail _ (.tail _ (.tail _ (.tail _ (.tail _ (.tail _ (.head _)))))))).c2; have s3 := (HK.out.a _ (.tail _ (.tail _ (.tail _ (.tail _ (.tail _ (.tail _ (.head _)))))))).c3; have s4 := (HK.out.a _ (.tail _ (.tail _ (.tail _ (.tail _ (.tail _ (.tail _ (.head _)))))))).c4; have l0 := (HK.out.a _ (.tail _ (.tail _ (.tail _ (.tail _ (.tail _ (.head _))))))).c0; have l1 := (HK.out.a _ (.tail _ (.tail _ (.tail _ (.tail _ (.tail _ (.head _))))))).c1; have l2 := (HK.out.a _ (.tail _ (.tail _ (.tail _ (.tail _ (.tail _ (.head _))))))).c2; have l3 := (HK.out.a _ (.tail _ (.tail _ (.tail _ (.tail _ (.tail _ (.head _))))))).c3; have l4 := (HK.out.a _ (.tail _ (.tail _ (.tail _ (.tail _ (.tail _ (.head _))))))).c4; have c0 := (HK.out.a _ (.tail _ (.tail _ (.tail _ (.tail _ (.head _)))))).c0; have c1 := (HK.out.a _ (.tail _ (.tail _ (.tail _ (.tail _ (.head _)))))).c1; have c2 := (HK.out.a _ (.tail _ (.tail _ (.tail _ (.tail _ (.head _)))))).c2; have c3 := (HK.out.a _ (.tail _ (.tail _ (.tail _ (.tail _ (.head _)))))).c3; have c4 := (HK.out.a _ (.tail _ (.tail _ (.tail _ (.tail _ (.head _)))))).c4; have row0 := (HK.out.a _ (.tail _ (.tail _ (.tail _ (.head _))))).c0; have row1 := (HK.out.a _ (.tail _ (.tail _ (.tail _ (.head _))))).c1; have row2 := (HK.out.a _ (.tail _ (.tail _ (.tail _ (.head _))))).c2; have row3 := (HK.out.a _ (.tail _ (.tail _ (.tail _ (.head _))))).c3; have row4 := (HK.out.a _ (.tail _ (.tail _ (.tail _ (.head _))))).c4; have qx0 := (HK.out.a _ (.tail _ (.tail _ (.head _)))).c0; have qx1 := (HK.out.a _ (.tail _ (.tail _ (.head _)))).c1; have qx2 := (HK.out.a _ (.tail _ (.tail _ (.head _)))).c2; have qx3 := (HK.out.a _ (.tail _ (.tail _ (.head _)))).c3; have qx4 := (HK.out.a _ (.tail _ (.tail _ (.head _)))).c4; have qy0 := (HK.out.a _ (.tail _ (.head _))).c0; have qy1 := (HK.out.a _ (.tail _ (.head _))).c1; have qy2 := (HK.out.a _ (.tail _ (.head _))).c2; have qy3 := (HK.out.a _ (.tail _ (.head _))).c3; have qy4 := (HK.out.a _ (.tail _ (.head _))).c4; have qz0 := (HK.out.a _ (.head _)).c0; have qz1 := (HK.out.a _ (.head _)).c1; have qz2 := (HK.out.a _ (.head _)).c2; have qz3 := (HK.out.a _ (.head _)).c3; have qz4 := (HK.out.a _ (.head _)).c4)
              | fail)
            generalize hWq : World.alloc wr4 _ = W0 at HK ⊢
            clear hWq x0 x1 x2 x3 x4 s0 s1 s2 s3 s4 l0 l1 l2 l3 l4 c0 c1 c2 c3 c4 row0 row1 row2 row3 row4 qx0 qx1 qx2 qx3 qx4 qy0 qy1 qy2 qy3 qy4 qz0 qz1 qz2 qz3 qz4
            obtain ⟨bz, oz, hp_qz, hb_qz, hc_qz⟩ := (HK.out.r _ (.head _)).cells (by simp)
            subst hp_qz
            have g_qz : W0.cell? ⟨bz, oz, none⟩ = some (.int .i64 (m : Int)) := by have := hc_qz 0 (by simp); rw [Nat.add_zero] at this; exact this
            clear hc_qz
            obtain ⟨bc, oc, hp_c, hb_c, hc_c⟩ := (HK.out.r _ (.tail _ (.tail _ (.tail _ (.tail _ (.head _)))))).cells (by intro e; have e2 : cz = [] := e; rw [e2] at hjc; simp at hjc)
            subst hp_c
            have g_c : W0.cell? ⟨bc, oc + j, none⟩ = some (.int .i64 cz[j]) := hc_c j hjc
            rw [← show cz.getD j 0 = cz[j] by simp [List.getD_eq_getElem?_getD, hjc], hCv] at g_c
            clear hc_c
            obtain ⟨bx, ox, hp_qx, hb_qx, hc_qx⟩ := (HK.out.r _ (.tail _ (.tail _ (.head _)))).cells (by simp)
            subst hp_qx
            have g_qx : W0.cell? ⟨bx, ox, none⟩ = some (.int .i64 xv) := by have := hc_qx 0 (by simp); rw [Nat.add_zero] at this; exact this
            clear hc_qx
            obtain ⟨bs, os, hp_s, hb_s, hc_s⟩ := (HK.out.r _ (.tail _ (.tail _ (.tail _ (.tail _ (.tail _ (.tail _ (.head _)))))))).cells (by intro e; have e2 : sz = [] := e; rw [e2] at hjs; simp at hjs)
            subst hp_s
            have g_s : W0.cell? ⟨bs, os + j, none⟩ = some (.int .i64 sz[j]) := hc_s j hjs
            rw [← show sz.getD j 0 = sz[j] by simp [List.getD_eq_getElem?_getD, hjs], hSv1] at g_s
            clear hc_s
            have s0 := (HK.out.a _ (.tail _ (.tail _ (.tail _ (.tail _ (.tail _ (.tail _ (.head _)))))))).c0
            have s1 := (HK.out.a _ (.tail _ (.tail _ (.tail _ (.tail _ (.tail _ (.tail _ (.head _)))))))).c1
            have s2 := (HK.out.a _ (.tail _ (.tail _ (.tail _ (.tail _ (.tail _ (.tail _ (.head _)))))))).c2
            have s3 := (HK.out.a _ (.tail _ (.tail _ (.tail _ (.tail _ (.tail _ (.tail _ (.head _)))))))).c3
            have s4 := (HK.out.a _ (.tail _ (.tail _ (.tail _ (.tail _ (.tail _ (.tail _ (.head _)))))))).c4
            have l0 := (HK.out.a _ (.tail _ (.tail _ (.tail _ (.tail _ (.tail _ (.head _))))))).c0
            have l1 := (HK.out.a _ (.tail _ (.tail _ (.tail _ (.tail _ (.tail _ (.head _))))))).c1
            have l2 := (HK.out.a _ (.tail _ (.tail _ (.tail _ (.tail _ (.tail _ (.head _))))))).c2
            have l3 := (HK.out.a _ (.tail _ (.tail _ (.tail _ (.tail _ (.tail _ (.head _))))))).c3
            have l4 := (HK.out.a _ (.tail _ (.tail _ (.tail _ (.tail _ (.tail _ (.head _))))))).c4
            have c0 := (HK.out.a _ (.tail _ (.tail _ (.tail _ (.tail _ (.head _)))))).c0
            have c1 := (HK.out.a _ (.tail _ (.tail _ (.tail _ (.tail _ (.head _)))))).c1
            have c2 := (HK.out.a _ (.tail _ (.tail _ (.tail _ (.tail _ (.head _)))))).c2
            have c3 := (HK.out.a _ (.tail _ (.tail _ (.tail _ (.tail _ (.head _)))))).c3
            have c4 := (HK.out.a _ (.tail _ (.tail _ (.tail _ (.tail _ (.head _)))))).c4
            have qx0 := (HK.out.a _ (.tail _ (.tail _ (.head _)))).c0
            have qx1 := (HK.out.a _ (.tail _ (.tail _ (.head _)))).c1
            have qx2 := (HK.out.a _ (.tail _ (.tail _ (.head _)))).c2
            have qx3 := (HK.out.a _ (.tail _ (.tail _ (.head _)))).c3
            have qx4 := (HK.out.a _ (.tail _ (.tail _ (.head _)))).c4
            have qy0 := (HK.out.a _ (.tail _ (.head _))).c0
            have qy1 := (HK.out.a _ (.tail _ (.head _))).c1
            have qy2 := (HK.out.a _ (.tail _ (.head _))).c2
            have qy3 := (HK.out.a _ (.tail _ (.head _))).c3
            have qy4 := (HK.out.a _ (.tail _ (.head _))).c4
            have qz0 := (HK.out.a _ (.head _)).c0
            have qz1 := (HK.out.a _ (.head _)).c1
            have qz2 := (HK.out.a _ (.head _)).c2
            have qz3 := (HK.out.a _ (.head _)).c3
            have qz4 := (HK.out.a _ (.head _)).c4
            go_wp2_with fail
            go_quiet (fail)
            generalize hW0 : World.drewN W0 _ = W1
            have hd0 : Below W0.heap.size W0 W1 := by rw [← hW0]; exact drewN_below _ _
            have HKn := Lib.hid (HK.out.next hd0)
            have g1_qz : W1.cell? ⟨bz, oz, none⟩ = some (.int .i64 (m : Int)) := (hd0.cell (p := ⟨bz, oz, none⟩) hb_qz).trans g_qz
            have hb1_qz : bz < W1.heap.size := Nat.lt_of_lt_of_le hb_qz hd0.size
            clear g_qz hb_qz
            have g_qz := g1_qz
            have hb_qz := hb1_qz
            clear g1_qz hb1_qz
            have g1_c : W1.cell? ⟨bc, oc + j, none⟩ = some (.int .i64 (m : Int)) := (hd0.cell (p := ⟨bc, oc + j, none⟩) hb_c).trans g_c
            have hb1_c : bc < W1.heap.size := Nat.lt_of_lt_of_le hb_c hd0.size
            clear g_c hb_c
            have g_c := g1_c
            have hb_c := hb1_c
            clear g1_c hb1_c
            have g1_qx : W1.cell? ⟨bx, ox, none⟩ = some (.int .i64 xv) := (hd0.cell (p := ⟨bx, ox, none⟩) hb_qx).trans g_qx
            have hb1_qx : bx < W1.heap.size := Nat.lt_of_lt_of_le hb_qx hd0.size
            clear g_qx hb_qx
            have g_qx := g1_qx
            have hb_qx := hb1_qx
            clear g1_qx hb1_qx
            have g1_s : W1.cell? ⟨bs, os + j, none⟩ = some (.int .i64 xv) := (hd0.cell (p := ⟨bs, os + j, none⟩) hb_s).trans g_s
            have hb1_s : bs < W1.heap.size := Nat.lt_of_lt_of_le hb_s hd0.size
            clear g_s hb_s
            have g_s := g1_s
            have hb_s := hb1_s
            clear g1_s hb1_s
            clear HK hW0 hd0 s0 s1 s2 s3 s4 l0 l1 l2 l3 l4 c0 c1 c2 c3 c4 qx0 qx1 qx2 qx3 qx4 qy0 qy1 qy2 qy3 qy4 qz0 qz1 qz2 qz3 qz4
            have HK := HKn
            clear HKn
            have s0 := (HK.out.a _ (.tail _ (.tail _ (.tail _ (.tail _ (.tail _ (.tail _ (.head _)))))))).c0
            have s1 := (HK.out.a _ (.tail _ (.tail _ (.tail _ (.tail _ (.tail _ (.tail _ (.head _)))))))).c1
            have s2 := (HK.out.a _ (.tail _ (.tail _ (.tail _ (.tail _ (.tail _ (.tail _ (.head _)))))))).c2
            have s3 := (HK.out.a _ (.tail _ (.tail _ (.tail _ (.tail _ (.tail _ (.tail _ (.head _)))))))).c3
            have s4 := (HK.out.a _ (.tail _ (.tail _ (.tail _ (.tail _ (.tail _ (.tail _ (.head _)))))))).c4
            have l0 := (HK.out.a _ (.tail _ (.tail _ (.tail _ (.tail _ (.tail _ (.head _))))))).c0
            have l1 := (HK.out.a _ (.tail _ (.tail _ (.tail _ (.tail _ (.tail _ (.head _))))))).c1
            have l2 := (HK.out.a _ (.tail _ (.tail _ (.tail _ (.tail _ (.tail _ (.head _))))))).c2
            have l3 := (HK.out.a _ (.tail _ (.tail _ (.tail _ (.tail _ (.tail _ (.head _))))))).c3
            have l4 := (HK.out.a _ (.tail _ (.tail _ (.tail _ (.tail _ (.tail _ (.head _))))))).c4
            have c0 := (HK.out.a _ (.tail _ (.tail _ (.tail _ (.tail _ (.head _)))))).c0
            have c1 := (HK.out.a _ (.tail _ (.tail _ (.tail _ (.tail _ (.head _)))))).c1
            have c2 := (HK.out.a _ (.tail _ (.tail _ (.tail _ (.tail _ (.head _)))))).c2
            have c3 := (HK.out.a _ (.tail _ (.tail _ (.tail _ (.tail _ (.head _)))))).c3
            have c4 := (HK.out.a _ (.tail _ (.tail _ (.tail _ (.tail _ (.head _)))))).c4
            have qx0 := (HK.out.a _ (.tail _ (.tail _ (.head _)))).c0
            have qx1 := (HK.out.a _ (.tail _ (.tail _ (.head _)))).c1
            have qx2 := (HK.out.a _ (.tail _ (.tail _ (.head _)))).c2
            have qx3 := (HK.out.a _ (.tail _ (.tail _ (.head _)))).c3
            have qx4 := (HK.out.a _ (.tail _ (.tail _ (.head _)))).c4
            have qy0 := (HK.out.a _ (.tail _ (.head _))).c0
            have qy1 := (HK.out.a _ (.tail _ (.head _))).c1
            have qy2 := (HK.out.a _ (.tail _ (.head _))).c2
            have qy3 := (HK.out.a _ (.tail _ (.head _))).c3
            have qy4 := (HK.out.a _ (.tail _ (.head _))).c4
            have qz0 := (HK.out.a _ (.head _)).c0
            have qz1 := (HK.out.a _ (.head _)).c1
            have qz2 := (HK.out.a _ (.head _)).c2
            have qz3 := (HK.out.a _ (.head _)).c3
            have qz4 := (HK.out.a _ (.head _)).c4
            go_wp2_with fail
            go_quiet (fail)
            generalize hW1 : World.drewN W1 _ = W2
            have hd1 : Below W1.heap.size W1 W2 := by rw [← hW1]; exact drewN_below _ _
            have HKn := Lib.hid (HK.out.next hd1)
            have g1_qz : W2.cell? ⟨bz, oz, none⟩ = some (.int .i64 (m : Int)) := (hd1.cell (p := ⟨bz, oz, none⟩) hb_qz).trans g_qz
            have hb1_qz : bz < W2.heap.size := Nat.lt_of_lt_of_le hb_qz hd1.size
            clear g_qz hb_qz
            have g_qz := g1_qz
            have hb_qz := hb1_qz
            clear g1_qz hb1_qz
            have g1_c : W2.cell? ⟨bc, oc + j, none⟩ = some (.int .i64 (m : Int)) := (hd1.cell (p := ⟨bc, oc + j, none⟩) hb_c).trans g_c
            have hb1_c : bc < W2.heap.size := Nat.lt_of_lt_of_le hb_c hd1.size
            clear g_c hb_c
            have g_c := g1_c
            have hb_c := hb1_c
            clear g1_c hb1_c
            have g1_qx : W2.cell? ⟨bx, ox, none⟩ = some (.int .i64 xv) := (hd1.cell (p := ⟨bx, ox, none⟩) hb_qx).trans g_qx
            have hb1_qx : bx < W2.heap.size := Nat.lt_of_lt_of_le hb_qx hd1.size
            clear g_qx hb_qx
            have g_qx := g1_qx
            have hb_qx := hb1_qx
            clear g1_qx hb1_qx
            have g1_s : W2.cell? ⟨bs, os + j, none⟩ = some (.int .i64 xv) := (hd1.cell (p := ⟨bs, os + j, none⟩) hb_s).trans g_s
            have hb1_s : bs < W2.heap.size := Nat.lt_of_lt_of_le hb_s hd1.size
            clear g_s hb_s
            have g_s := g1_s
            have hb_s := hb1_s
            clear g1_s hb1_s
            clear HK hW1 hd1 s0 s1 s2 s3 s4 l0 l1 l2 l3 l4 c0 c1 c2 c3 c4 qx0 qx1 qx2 qx3 qx4 qy0 qy1 qy2 qy3 qy4 qz0 qz1 qz2 qz3 qz4
            have HK := HKn
            clear HKn
            have s0 := (HK.out.a _ (.tail _ (.tail _ (.tail _ (.tail _ (.tail _ (.tail _ (.head _)))))))).c0
            have s1 := (HK.out.a _ (.tail _ (.tail _ (.tail _ (.tail _ (.tail _ (.tail _ (.head _)))))))).c1
            have s2 := (HK.out.a _ (.tail _ (.tail _ (.tail _ (.tail _ (.tail _ (.tail _ (.head _)))))))).c2
            have s3 := (HK.out.a _ (.tail _ (.tail _ (.tail _ (.tail _ (.tail _ (.tail _ (.head _)))))))).c3
            have s4 := (HK.out.a _ (.tail _ (.tail _ (.tail _ (.tail _ (.tail _ (.tail _ (.head _)))))))).c4
            have l0 := (HK.out.a _ (.tail _ (.tail _ (.tail _ (.tail _ (.tail _ (.head _))))))).c0
            have l1 := (HK.out.a _ (.tail _ (.tail _ (.tail _ (.tail _ (.tail _ (.head _))))))).c1
            have l2 := (HK.out.a _ (.tail _ (.tail _ (.tail _ (.tail _ (.tail _ (.head _))))))).c2
            have l3 := (HK.out.a _ (.tail _ (.tail _ (.tail _ (.tail _ (.tail _ (.head _))))))).c3
            have l4 := (HK.out.a _ (.tail _ (.tail _ (.tail _ (.tail _ (.tail _ (.head _))))))).c4
            have c0 := (HK.out.a _ (.tail _ (.tail _ (.tail _ (.tail _ (.head _)))))).c0
            have c1 := (HK.out.a _ (.tail _ (.tail _ (.tail _ (.tail _ (.head _)))))).c1
            have c2 := (HK.out.a _ (.tail _ (.tail _ (.tail _ (.tail _ (.head _)))))).c2
            have c3 := (HK.out.a _ (.tail _ (.tail _ (.tail _ (.tail _ (.head _)))))).c3
            have c4 := (HK.out.a _ (.tail _ (.tail _ (.tail _ (.tail _ (.head _)))))).c4
            have qx0 := (HK.out.a _ (.tail _ (.tail _ (.head _)))).c0
            have qx1 := (HK.out.a _ (.tail _ (.tail _ (.head _)))).c1
            have qx2 := (HK.out.a _ (.tail _ (.tail _ (.head _)))).c2
            have qx3 := (HK.out.a _ (.tail _ (.tail _ (.head _)))).c3
            have qx4 := (HK.out.a _ (.tail _ (.tail _ (.head _)))).c4
            have qy0 := (HK.out.a _ (.tail _ (.head _))).c0
            have qy1 := (HK.out.a _ (.tail _ (.head _))).c1
            have qy2 := (HK.out.a _ (.tail _ (.head _))).c2
            have qy3 := (HK.out.a _ (.tail _ (.head _))).c3
            have qy4 := (HK.out.a _ (.tail _ (.head _))).c4
            have qz0 := (HK.out.a _ (.head _)).c0
            have qz1 := (HK.out.a _ (.head _)).c1
            have qz2 := (HK.out.a _ (.head _)).c2
            have qz3 := (HK.out.a _ (.head _)).c3
            have qz4 := (HK.out.a _ (.head _)).c4
            go_wp2_with fail
            go_quiet (fail)
            generalize hW2 : World.drewN W2 _ = W3
            have hd2 : Below W2.heap.size W2 W3 := by rw [← hW2]; exact drewN_below _ _
            have HKn := Lib.hid (HK.out.next hd2)
            have g1_qz : W3.cell? ⟨bz, oz, none⟩ = some (.int .i64 (m : Int)) := (hd2.cell (p := ⟨bz, oz, none⟩) hb_qz).trans g_qz
            have hb1_qz : bz < W3.heap.size := Nat.lt_of_lt_of_le hb_qz hd2.size
            clear g_qz hb_qz
            have g_qz := g1_qz
            have hb_qz := hb1_qz
            clear g1_qz hb1_qz
            have g1_c : W3.cell? ⟨bc, oc + j, none⟩ = some (.int .i64 (m : Int)) := (hd2.cell (p := ⟨bc, oc + j, none⟩) hb_c).trans g_c
            have hb1_c : bc < W3.heap.size := Nat.lt_of_lt_of_le hb_c hd2.size
            clear g_c hb_c
            have g_c := g1_c
            have hb_c := hb1_c
            clear g1_c hb1_c
            have g1_qx : W3.cell? ⟨bx, ox, none⟩ = some (.int .i64 xv) := (hd2.cell (p := ⟨bx, ox, none⟩) hb_qx).trans g_qx
            have hb1_qx : bx < W3.heap.size := Nat.lt_of_lt_of_le hb_qx hd2.size
            clear g_qx hb_qx
            have g_qx := g1_qx
            have hb_qx := hb1_qx
            clear g1_qx hb1_qx
            have g1_s : W3.cell? ⟨bs, os + j, none⟩ = some (.int .i64 xv) := (hd2.cell (p := ⟨bs, os + j, none⟩) hb_s).trans g_s
            have hb1_s : bs < W3.heap.size := Nat.lt_of_lt_of_le hb_s hd2.size
            clear g_s hb_s
            have g_s := g1_s
            have hb_s := hb1_s
            clear g1_s hb1_s
            clear HK hW2 hd2 s0 s1 s2 s3 s4 l0 l1 l2 l3 l4 c0 c1 c2 c3 c4 qx0 qx1 qx2 qx3 qx4 qy0 qy1 qy2 qy3 qy4 qz0 qz1 qz2 qz3 qz4
            have HK := HKn
            clear HKn
            have s0 := (HK.out.a _ (.tail _ (.tail _ (.tail _ (.tail _ (.tail _ (.tail _ (.head _)))))))).c0
            have s1 := (HK.out.a _ (.tail _ (.tail _ (.tail _ (.tail _ (.tail _ (.tail _ (.head _)))))))).c1
            have s2 := (HK.out.a _ (.tail _ (.tail _ (.tail _ (.tail _ (.tail _ (.tail _ (.head _)))))))).c2
            have s3 := (HK.out.a _ (.tail _ (.tail _ (.tail _ (.tail _ (.tail _ (.tail _ (.head _)))))))).c3
            have s4 := (HK.out.a _ (.tail _ (.tail _ (.tail _ (.tail _ (.tail _ (.tail _ (.head _)))))))).c4
            have l0 := (HK.out.a _ (.tail _ (.tail _ (.tail _ (.tail _ (.tail _ (.head _))))))).c0
            have l1 := (HK.out.a _ (.tail _ (.tail _ (.tail _ (.tail _ (.tail _ (.head _))))))).c1
            have l2 := (HK.out.a _ (.tail _ (.tail _ (.tail _ (.tail _ (.tail _ (.head _))))))).c2
            have l3 := (HK.out.a _ (.tail _ (.tail _ (.tail _ (.tail _ (.tail _ (.head _))))))).c3
            have l4 := (HK.out.a _ (.tail _ (.tail _ (.tail _ (.tail _ (.tail _ (.head _))))))).c4
            have c0 := (HK.out.a _ (.tail _ (.tail _ (.tail _ (.tail _ (.head _)))))).c0
            have c1 := (HK.out.a _ (.tail _ (.tail _ (.tail _ (.tail _ (.head _)))))).c1
            have c2 := (HK.out.a _ (.tail _ (.tail _ (.tail _ (.tail _ (.head _)))))).c2
            have c3 := (HK.out.a _ (.tail _ (.tail _ (.tail _ (.tail _ (.head _)))))).c3
            have c4 := (HK.out.a _ (.tail _ (.tail _ (.tail _ (.tail _ (.head _)))))).c4
            have qx0 := (HK.out.a _ (.tail _ (.tail _ (.head _)))).c0
            have qx1 := (HK.out.a _ (.tail _ (.tail _ (.head _)))).c1
            have qx2 := (HK.out.a _ (.tail _ (.tail _ (.head _)))).c2
            have qx3 := (HK.out.a _ (.tail _ (.tail _ (.head _)))).c3
            have qx4 := (HK.out.a _ (.tail _ (.tail _ (.head _)))).c4
            have qy0 := (HK.out.a _ (.tail _ (.head _))).c0
            have qy1 := (HK.out.a _ (.tail _ (.head _))).c1
            have qy2 := (HK.out.a _ (.tail _ (.head _))).c2
            have qy3 := (HK.out.a _ (.tail _ (.head _))).c3
            have qy4 := (HK.out.a _ (.tail _ (.head _))).c4
            have qz0 := (HK.out.a _ (.head _)).c0
            have qz1 := (HK.out.a _ (.head _)).c1
            have qz2 := (HK.out.a _ (.head _)).c2
            have qz3 := (HK.out.a _ (.head _)).c3
            have qz4 := (HK.out.a _ (.head _)).c4
            go_wp2_with fail
            go_roundg g2
            case measure => omega
            case rel => exact ⟨j + 1, _, _, by omega, rfl, rfl, by go_num, HFn.out, HGn.out, HK.out.drop (fun b m => by simp only [List.mem_cons, List.not_mem_nil, or_false] at m ⊢; rcases m with rfl | rfl | rfl | rfl <;> simp)⟩
end Go.Proofs.YtokmdgiialcokaaDoor
