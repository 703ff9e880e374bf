import Derived.Test.YtbiagmnkdihmiaaG08
import Derived.Test.YtbiagmnkdihmiaaG06
namespace Go.Proofs.Ytbiagmnkdihmiaa
set_option maxRecDepth 100000
set_option maxHeartbeats 8000000
open Go.RowKit
set_option linter.unusedVariables false
set_option linter.unusedSimpArgs false
def zeroTo (raw : List Int) (i : Nat) : List Int := raw.take 148 ++ (List.replicate (i - 148) 0 ++ raw.drop i)
theorem zeroTo_length (raw : List Int) (i : Nat) (hl : raw.length = 4096) (h1 : 148 ≤ i) (h2 : i ≤ 4096) : (zeroTo raw i).length = 4096 := by simp [zeroTo, hl]; omega
theorem zeroTo_first (raw : List Int) : zeroTo raw 148 = raw := by simp [zeroTo]
theorem zeroTo_step (raw : List Int) (i : Nat) (hl : raw.length = 4096) (h1 : 148 ≤ i) (h2 : i < 4096) : (zeroTo raw i).set i 0 = zeroTo raw (i + 1) := by
  unfold zeroTo
  have hA : (raw.take 148 ++ List.replicate (i - 148) (0 : Int)).length = i := by simp [hl]; omega
  rw [← List.append_assoc, List.set_append_right (h := by rw [hA]; exact Nat.le_refl _), hA, Nat.sub_self, List.drop_eq_getElem_cons (by omega), List.set_cons_zero, show i + 1 - 148 = (i - 148) + 1 from by omega, List.replicate_succ', List.append_assoc, List.append_assoc]
  simp
theorem zeroTo_last {raw : List Int} (h : ownOK raw = true) : zeroTo raw 4096 = encB (raw.take 4) (numAt raw 4 8) (numAt raw 12 4) (numAt raw 16 2) (slotsOf raw) (List.replicate 4096 0) := by
  have hl := ownOK_len h
  have he := (own_enc h).1
  have h4 : (raw.take 4).length = 4 := by rw [List.length_take, hl]; rfl
  have h64 := slotsOf_length raw
  rw [encB_eq _ _ _ _ _ _ h4 h64] at he
  rw [encB_eq _ _ _ _ _ _ h4 h64]
  have ht : raw.take 148 = headB (raw.take 4) (numAt raw 4 8) (numAt raw 12 4) (numAt raw 16 2) ++ slotB (slotsOf raw) := by
    have hx : (headB (raw.take 4) (numAt raw 4 8) (numAt raw 12 4) (numAt raw 16 2) ++ slotB (slotsOf raw)).length = 148 := by rw [List.length_append, headB_length _ _ _ _ h4, slotB_length, h64]
    rw [← List.append_assoc] at he
    conv => lhs; rw [← he]
    rw [List.take_append_of_le_length (by omega), List.take_of_length_le (by omega)]
  unfold zeroTo
  rw [ht, List.drop_of_length_le (by omega), List.append_nil, List.drop_replicate, List.append_assoc]
theorem comp_step {raw sl : List Int} {sum : List Int} {lsn num bot : Int} (h : SlOK sl) (h1 : sum.length = 4) (h2 : sl.length = 64) (hl : raw.length = 4096) (k : Nat) (hk : k < 32) (h0 : ¬ sl.getD (2 * k) 0 = 0) :
    layI (layI (layI (encB sum lsn num bot (cSl sl k) (cBody raw sl k)) (cBot sl (k + 1)).toNat (stretch raw (sl.getD (2 * k) 0) (sl.getD (2 * k + 1) 0))) (20 + 4 * k) (lows (cBot sl (k + 1)) 2)) (20 + 4 * k + 2) (lows (sl.getD (2 * k + 1) 0) 2) = encB sum lsn num bot (cSl sl (k + 1)) (cBody raw sl (k + 1)) := by
  have hb := h.bot (k + 1) (by omega)
  have hb0 := h.bot k (by omega)
  have h3 := h.one k hk
  have hs := cBot_succ sl k
  have hst : (stretch raw (sl.getD (2 * k) 0) (sl.getD (2 * k + 1) 0)).length = (sl.getD (2 * k + 1) 0).toNat := stretch_length raw _ _ hl (by omega) (by omega) (by omega)
  have hc : (cSl sl k).length = 64 := by rw [cSl_length, h2]
  rw [encB_body h1 hc (h.body raw hl k (by omega)) _ _ (by omega) (by rw [hst]; omega)]
  rw [show 20 + 4 * k = 20 + 2 * (2 * k) from by omega, encB_slot h1 hc (2 * k) _ (by omega)]
  rw [show 20 + 2 * (2 * k) + 2 = 20 + 2 * (2 * k + 1) from by omega, encB_slot h1 (by rw [List.length_set]; exact hc) (2 * k + 1) _ (by omega)]
  have e1 : cBody raw sl (k + 1) = layI (cBody raw sl k) (cBot sl (k + 1)).toNat (stretch raw (sl.getD (2 * k) 0) (sl.getD (2 * k + 1) 0)) := by rw [cBody, if_neg h0]
  have e2 : cSl sl (k + 1) = (cSl sl k).set (2 * k) (cBot sl (k + 1)) := by rw [cSl, if_neg h0]
  rw [e1, e2]
  congr 1
  have hg := cSl_at sl k (2 * k + 1) (by omega)
  apply List.ext_getElem?
  intro j
  by_cases hj : j = 2 * k + 1
  · subst hj
    rw [List.getElem?_set_self (by rw [List.length_set, hc]; omega), List.getElem?_set_ne (by omega)]
    rw [← hg, List.getD_eq_getElem?_getD, List.getElem?_eq_getElem (by rw [hc]; omega)]
    rfl
  · rw [List.getElem?_set_ne (by omega)]
theorem specComp_any (v : Value) (raw : List Int) (w : World) (hB : IsB raw) (hn : raw.length ≤ 1099511627776) (hv : Rd .u8 w v raw) :
    Calls Try.prog 6 #[v] w fun e w' => ∃ a c, e = .returned (.slice a (pageCompact raw).length c) ∧ (∀ b, (Value.slice a (pageCompact raw).length c).ownBlock = some b → w.heap.size ≤ b) ∧ Own 0 5 .u8 w' (.slice a (pageCompact raw).length c) (pageCompact raw) ∧ Same w w' := by
  have HV := hid hv
  have HB := hid hB
  have HN := hid hn
  have kO := fun wx hv => l3Own_any v raw wx hB hn hv
  obtain ⟨av, cv, rfl⟩ := hv.form
  clear hv
  by_cases hok : ownOK raw = true
  case neg =>
    have hok' : ownOK raw = false := by simpa using hok
    rw [show pageCompact raw = [] from if_neg hok]
    rw [hok'] at kO
    clear hok hok'
    go_enter Try.func6, Try.ntmps6
    go_wp2_with fail
    refine (kO _ HV.out).mono ?_
    rintro e w1 ⟨rfl, hk1⟩
    have HK1 := hid hk1
    clear hk1
    go_wp2
    go_ret
    exact ⟨_, _, rfl, fun b hb => by have h : w1.heap.size = b := (by simpa [Value.ownBlock] using hb); have := HK1.out.size; omega, World.ownsRow_made w1 #[] 0 (Nat.zero_le _) (by simp) (by simp), HK1.out.alloc _⟩
  have hl := ownOK_len hok
  have HSl := hid (slOK_of hB hok)
  have HOK := hid hok
  have HL := hid hl
  have HZL := hid (zeroTo_last hok)
  have h4 : (raw.take 4).length = 4 := by rw [List.length_take, hl]; rfl
  have H4 := hid h4
  have H64 := hid (slotsOf_length raw)
  have hcb := (slOK_of hB hok).bot 32 (Nat.le_refl _)
  have HPC := hid (show pageCompact raw = layI (encB (raw.take 4) (numAt raw 4 8) (numAt raw 12 4) (numAt raw 16 2) (cSl (slotsOf raw) 32) (cBody raw (slotsOf raw) 32)) 16 (lows (cBot (slotsOf raw) 32) 2) from by rw [encB_bot h4 (by rw [cSl_length, slotsOf_length])]; exact if_pos hok)
  have hpl : (pageCompact raw).length = 4096 := by rw [show pageCompact raw = compB raw from if_pos hok]; exact compB_length hB hok
  rw [hpl]
  have HSM := hid (slotsOf_small raw hB hl)
  rw [hok] at kO
  have kG := fun s wx hv => specPageGet_any (.slice av raw.length cv) raw s wx hB hn hv
  have HGY : Hid (∀ k : Nat, k < 32 → ¬ (slotsOf raw).getD (2 * k) 0 = 0 → pageGet raw (k : Int) = (true, stretch raw ((slotsOf raw).getD (2 * k) 0) ((slotsOf raw).getD (2 * k + 1) 0))) := fun k hk h0 => pageGet_yes hok hk h0
  have HGN : Hid (∀ k : Nat, k < 32 → (slotsOf raw).getD (2 * k) 0 = 0 → pageGet raw (k : Int) = (false, [])) := fun k hk h0 => pageGet_no (.inr (.inr (.inr (by rw [Int.toNat_natCast]; exact h0))))
  obtain ⟨sl, hsl⟩ : ∃ sl, slotsOf raw = sl := ⟨_, rfl⟩
  rw [hsl] at HSl HZL H64 HPC HSM HGY HGN hcb
  obtain ⟨sum, hsum⟩ : ∃ sum, raw.take 4 = sum := ⟨_, rfl⟩
  rw [hsum] at HZL H4 HPC
  obtain ⟨lsn, hlsn⟩ : ∃ x, numAt raw 4 8 = x := ⟨_, rfl⟩
  obtain ⟨num, hnum⟩ : ∃ x, numAt raw 12 4 = x := ⟨_, rfl⟩
  obtain ⟨bot, hbot⟩ : ∃ x, numAt raw 16 2 = x := ⟨_, rfl⟩
  rw [hlsn, hnum, hbot] at HZL HPC
  rw [hl] at kO kG HV ⊢
  clear hok hl h4 hpl hsl hsum hlsn hnum hbot hB hn
  go_enter Try.func6, Try.ntmps6
  go_wp2_with fail
  refine (kO _ HV.out).mono ?_
  rintro e w1 ⟨rfl, hk1⟩
  have HK1 := hid hk1
  clear hk1 kO
  go_wp2_with fail
  refine (l1Copy_any _ raw _ HN.out (HV.out.same HK1.out)).mono ?_
  rintro e w2 ⟨a2, n2, c2, rfl, ho2, hf2, hk2⟩
  obtain ⟨g, e1, e2⟩ : ∃ g, a2 = some ⟨g, 0, none⟩ ∧ n2 = 4096 := by
    rcases ho2.form with ⟨_, h⟩ | ⟨g, cap, h, _⟩
    · have := HL.out; rw [h] at this; simp at this
    · cases h; exact ⟨g, rfl, HL.out⟩
  subst e1
  subst e2
  have HO2 := hid ho2
  have hg1 : w1.heap.size ≤ g := hf2 g rfl
  have HK2 := hid (HK1.out.trans hk2)
  have hz1 := HK1.out.size
  clear ho2 hf2 hk2
  go_wp2_with fail
  go_loopw [4] (fun i wr => ∃ (k : Nat), 148 ≤ k ∧ k ≤ 4096 ∧ i = .int .i64 (k : Int) ∧ Hid (Own 0 5 .u8 wr (.slice (some ⟨g, 0, none⟩) 4096 c2) (zeroTo raw k)) ∧ Hid (Same w wr)) (fun i _ => 4096 - (intOf i).toNat)
  case atStart => exact ⟨148, Nat.le_refl _, by omega, rfl, by rw [zeroTo_first]; exact HO2, HK2⟩
  case round =>
    obtain ⟨k, hk1, hk2, rfl, HO, HK⟩ := hrel
    by_cases hlt : k < 4096
    · have hzl := zeroTo_length raw k HL.out hk1 hk2
      have u0 := HO.out.cell hzl.symm k hlt
      have uf := HO.out.frozen hzl.symm k
      have HST := hid (HO.out.stored hzl.symm k 0)
      rw [zeroTo_step raw k HL.out hk1 hlt] at HST
      generalize (zeroTo raw k).getD k 0 = uold at u0
      clear hzl
      go_wp2
      go_roundw
      case rel => exact ⟨k + 1, by omega, by omega, by go_num, HST, HK.out.setCell (.inl (by dsimp only; omega)) _⟩
      case measure => simp [intOf]; omega
    have hkk : k = 4096 := by omega
    rw [hkk, HZL.out] at HO
    have hnlt : ¬ (k : Int) < 4096 := by omega
    clear hkk hk1 hk2 hlt
    clear HO2 HK2
    go_wp2_with fail
    clear hnlt
    go_loopw [5, 6] (fun b i wx => ∃ (k : Nat), k ≤ 32 ∧ b = .int .i64 (cBot sl k) ∧ i = .int .i64 (k : Int) ∧ Hid (Own 0 5 .u8 wx (.slice (some ⟨g, 0, none⟩) 4096 c2) (encB sum lsn num bot (cSl sl k) (cBody raw sl k))) ∧ Hid (Same w wx)) (fun _ i _ => 32 - (intOf i).toNat)
    case atStart => exact ⟨0, Nat.zero_le _, rfl, rfl, HO, HK⟩
    case round =>
      clear HO HK
      obtain ⟨k, hk, rfl, rfl, HO, HK⟩ := hrel
      by_cases hlt : k < 32
      case pos =>
        have kG := fun wx hv => kG (k : Int) wx hv
        have h1 := HSl.out.one k hlt
        have hb0 := HSl.out.bot k hk
        have hb1 := HSl.out.bot (k + 1) (by omega)
        have hbs := cBot_succ sl k
        by_cases h0 : sl.getD (2 * k) 0 = 0
        · rw [HGN.out k hlt h0] at kG
          have hlen0 : sl.getD (2 * k + 1) 0 = 0 := by omega
          have HSL := hid (show cSl sl (k + 1) = cSl sl k from by rw [cSl, if_pos h0])
          have HBD := hid (show cBody raw sl (k + 1) = cBody raw sl k from by rw [cBody, if_pos h0])
          have HBT := hid (show cBot sl (k + 1) = cBot sl k from by omega)
          clear h1 hbs hlen0 h0
          go_wp2_with fail
          refine (kG _ (HV.out.same HK.out)).mono ?_
          rintro e w4 ⟨⟨u, ⟨te, ta, tc, tb⟩⟩, rfl, hd, hf, ho, hk4⟩
          obtain ⟨rfl, rfl⟩ : u = false ∧ tb = [] := by simpa [StPageRecord.dat] using hd
          dsimp only [StPageRecord.val, BS.v]
          have HK4 := hid hk4
          clear hd hf ho hk4
          go_wp2
          go_roundw
          case rel => exact ⟨k + 1, by omega, by rw [HBT.out], by go_num, by rw [HSL.out, HBD.out]; exact HO.out.same (HK4.out.alloc _), (HK.out.trans HK4.out).alloc _⟩
          case measure => simp [intOf]; omega
        · rw [HGY.out k hlt h0] at kG
          have HSTEP := hid (comp_step (raw := raw) (sum := sum) (lsn := lsn) (num := num) (bot := bot) HSl.out H4.out H64.out HL.out k hlt h0)
          have hstl : (stretch raw (sl.getD (2 * k) 0) (sl.getD (2 * k + 1) 0)).length = (sl.getD (2 * k + 1) 0).toNat := stretch_length raw _ _ HL.out (by omega) (by omega) (by omega)
          obtain ⟨yn, hyn⟩ : ∃ n : Nat, sl.getD (2 * k + 1) 0 = (n : Int) := ⟨(sl.getD (2 * k + 1) 0).toNat, by omega⟩
          obtain ⟨bn, hbn⟩ : ∃ n : Nat, cBot sl (k + 1) = (n : Int) := ⟨(cBot sl (k + 1)).toNat, by omega⟩
          have HBN := hid hbn
          rw [hyn] at HSTEP hstl kG hbs h1
          rw [hbn] at HSTEP hbs hb1
          rw [Int.toNat_natCast] at HSTEP hstl
          generalize stretch raw (sl.getD (2 * k) 0) (yn : Int) = st at *
          have hel : (encB sum lsn num bot (cSl sl k) (cBody raw sl k)).length = 4096 := encB_length H4.out (by rw [cSl_length, H64.out]) (HSl.out.body raw HL.out k hk)
          obtain ⟨E, hE⟩ : ∃ E, encB sum lsn num bot (cSl sl k) (cBody raw sl k) = E := ⟨_, rfl⟩
          rw [hE] at HO HSTEP hel
          obtain ⟨cb, hcb0⟩ : ∃ x, cBot sl k = x := ⟨_, rfl⟩
          rw [hcb0] at hbs hb0 ⊢
          have HEL := hid hel
          have HST := hid hstl
          have q1 : IntKind.i64.wrap (cb - (yn : Int)) = (bn : Int) := by rw [IntKind.wrap_i64]; omega
          have hbn2 : 148 ≤ bn ∧ bn + yn ≤ 4096 := by omega
          have hc2 : 4096 ≤ c2 := HO.out.caps.2
          have g1 : (bn : Int) ≤ (c2 : Int) := by omega
          have g2 : (bn : Int) ≤ 4096 := by omega
          obtain ⟨ab, hab⟩ : ∃ ab : Option Addr, (if c2 = bn then some (⟨g, 0, none⟩ : Addr) else some ⟨g, bn, none⟩) = ab := ⟨_, rfl⟩
          have HAB := (show Hid (behind g c2 bn = ab) from hab)
          clear h1 hbs hyn hbn hel hstl h0 hb0 hE hcb0
          go_wp2_with fail
          refine (kG _ (HV.out.same HK.out)).mono ?_
          rintro e w4 ⟨⟨u, ⟨te, ta, tc, tb⟩⟩, rfl, hd, hf, ho, hk4⟩
          obtain ⟨rfl, htb⟩ : u = true ∧ tb = st := by simpa [StPageRecord.dat] using hd
          have HR4 := (show Hid (Rd .u8 w4 (.slice ta tb.length tc) tb) from (OwnL.of_one ho).rd)
          dsimp only [StPageRecord.val, BS.v]
          rw [htb] at HR4 ⊢
          have HK4 := hid hk4
          have HF4 : Hid (g < wr.heap.size) := (HO.out.lt g rfl).2
          rw [HST.out] at HR4 ⊢
          clear hd hf ho hk4 kG htb
          have HB4 := hid (Blk.newL w4 [.bool true, .slice ta yn tc] 33)
          have hz4 := HK4.out.size
          go_wp2_with fail
          have HK5 := (show Hid (Same wr (w4.alloc (.cells #[.bool true, .slice ta yn tc] 33))) from HK4.out.alloc _)
          have HR5 := hid (HR4.out.same ((Kept.refl _ _).alloc (.cells #[.bool true, .slice ta yn tc] 33)))
          generalize w4.alloc (.cells #[.bool true, .slice ta yn tc] 33) = w5 at HB4 HK5 HR5 ⊢
          obtain ⟨m0, m1⟩ := HB4.out.all2
          have hS : (fun wx : World => wx.cell? ⟨w4.heap.size, 1, none⟩ = some (.slice ta yn tc)) w5.drew := m1
          refine wp_region_V (fun wx : World => wx.cell? ⟨w4.heap.size, 1, none⟩ = some (.slice ta yn tc)) 99 6 rfl (by kernel_rfl) ?_
          refine tk 0 36 hS ?_
          refine tk 1 37 hS ?_
          refine tkV 2 38 (.slice ab (4096 - bn) (c2 - bn)) hS ?_
          refine tk 3 39 hS ?_
          refine tk 4 40 hS ?_
          have HO5 := hid ((HO.out.same HK5.out).same (Kept.refl _ _).drew)
          have hcp := run_copyOwn (P := Try.prog) 3 Try.underlying22 byte_one HO5.out HEL.out.symm bn (by rw [HST.out]; omega) (HR5.out.same (Kept.refl _ _).drew)
          rw [HAB.out, HST.out] at hcp
          have HL5 := hid (HO5.out.laid HEL.out.symm bn st (by rw [HST.out]; omega))
          refine wpAnyV_one (i := 5) (by kernel_rfl) rfl (fun K hK => ?_)
          go_simp
          have HK6 := (show Hid (Kept (fun b => b = g) wr (w5.drew.setCells g bn (vals .u8 st))) from Kept.setCells (R := fun b => b = g) (.inr rfl) _ _ ((HK5.out.drew).mono (fun _ _ e => e.elim)))
          have hgw : ¬ w4.heap.size = g := by have := HF4.out; omega
          have hk56 : Kept (fun b => b = g) w5 (w5.drew.setCells g bn (vals .u8 st)) := Kept.setCells (R := fun b => b = g) (.inr rfl) _ _ (Kept.refl _ _).drew
          have HB6 := hid (HB4.out.kept hk56 hgw)
          refine hK.out _ _ (fun _ => HB6.out.cell 1) ?_
          clear hK K hcp hk56
          try simp only [Act.put, sA, s0, sS]
          refine wpAnyV_done (by kernel_rfl) ?_
          generalize w5.drew.setCells g bn (vals .u8 st) = w6 at HL5 HK6 HB6 ⊢
          clear m0 m1 hS
          obtain ⟨m0, m1⟩ := HB6.out.all2
          have hll : (layI E bn st).length = 4096 := by rw [layI_length _ _ _ (by rw [HST.out, HEL.out]; omega), HEL.out]
          go_wp2_with fail
          refine (l3Set_any g c2 (layI E bn st) k (bn : Int) (yn : Int) w6 hll hlt (by omega) (by omega) HL5.out).mono ?_
          rintro e w7 ⟨rfl, ho7, hk7⟩
          rw [HSTEP.out] at ho7
          have HO7 := hid ho7
          have HK7 := hid (HK6.out.trans hk7)
          clear ho7 hk7 hll
          go_wp2
          go_roundw
          case rel => exact ⟨k + 1, by omega, by rw [HBN.out], by go_num, HO7, HK.out.next HK7.out (fun i hi e => by omega)⟩
          case measure => simp [intOf]; omega
      obtain rfl : k = 32 := by omega
      obtain ⟨bn, hbn⟩ : ∃ n : Nat, cBot sl 32 = (n : Int) := ⟨(cBot sl 32).toNat, by omega⟩
      have hel : (encB sum lsn num bot (cSl sl 32) (cBody raw sl 32)).length = 4096 := encB_length H4.out (by rw [cSl_length, H64.out]) (HSl.out.body raw HL.out 32 hk)
      have HEL := hid hel
      have kP := fun wx => put2_any (cBot sl 32) wx (by omega) (by omega)
      have hc2 : 4096 ≤ c2 := HO.out.caps.2
      have n1 : ¬ c2 = 16 := by omega
      have g1 : (16 : Int) ≤ (c2 : Int) := by omega
      obtain ⟨cb, hcb0⟩ : ∃ x, cBot sl 32 = x := ⟨_, rfl⟩
      rw [hcb0] at kP ⊢ HPC
      obtain ⟨E, hE⟩ : ∃ E, encB sum lsn num bot (cSl sl 32) (cBody raw sl 32) = E := ⟨_, rfl⟩
      rw [hE] at HO HEL HPC
      clear hel hbn hcb hcb0 hE
      go_wp2_with fail
      have hS : (fun _ : World => True) wr.drew := by trivial
      refine wp_region_V (fun _ : World => True) 99 5 rfl (by kernel_rfl) ?_
      refine tk 0 49 hS ?_
      refine tkV 1 50 (.slice (some ⟨g, 16, none⟩) (4096 - 16) (c2 - 16)) hS ?_
      refine tk 2 51 hS ?_
      refine wpAnyV_one (i := 3) (by kernel_rfl) rfl (fun K hK => ?_)
      go_simp
      refine (kP _).mono ?_
      rintro e w3 ⟨a3, c3, rfl, hr3, hk3⟩
      have HK3 : Hid (Same wr w3) := (Kept.refl _ _).drew.trans hk3
      have HO3 := hid (HO.out.same HK3.out)
      have hcp3 := run_copyOwn (P := Try.prog) 3 Try.underlying22 byte_one HO3.out HEL.out.symm 16 (by rw [lows_length]; omega) hr3
      rw [show behind g c2 16 = some ⟨g, 16, none⟩ from if_neg n1, lows_length] at hcp3
      have HL3 := hid (HO3.out.laid HEL.out.symm 16 (lows cb 2) (by rw [lows_length]; omega))
      refine hK.out _ _ (fun _ => trivial) ?_
      clear hK K hk3 hr3
      try simp only [Act.put, sA, s0, sS]
      refine wpAnyV_one (i := 4) (by kernel_rfl) rfl (fun K hK => ?_)
      go_simp
      refine hK.out _ _ (fun _ => trivial) ?_
      clear hK K
      try simp only [Act.put, sA, s0, sS]
      refine wpAnyV_done (by kernel_rfl) ?_
      rw [← HPC.out] at HL3
      have HK4 := (show Hid (Same w (w3.setCells g 16 (vals .u8 (lows cb 2)))) from Kept.setCells (.inl (by omega)) _ _ (HK.out.trans HK3.out))
      clear hcp3
      go_wp2
      go_ret
      exact ⟨_, _, rfl, fun b hb => by have h : g = b := (by simpa [Value.ownBlock] using hb); omega, HL3.out, HK4.out⟩
end Go.Proofs.Ytbiagmnkdihmiaa
