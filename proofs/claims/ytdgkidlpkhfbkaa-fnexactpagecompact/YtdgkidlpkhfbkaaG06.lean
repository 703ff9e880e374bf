import Derived.Test.YtdgkidlpkhfbkaaG05
import Derived.Test.YtdgkidlpkhfbkaaG00
import Derived.Deep.DeepCutAuto
namespace Go.Proofs.Ytdgkidlpkhfbkaa
set_option maxRecDepth 100000
set_option maxHeartbeats 8000000
open Go.RowKit
set_option linter.unusedVariables false
set_option linter.unusedSimpArgs false
def zeroTo (raw : List Int) (i : Nat) : List Int := raw.take 148 ++ (List.replicate (i - 148) 0 ++ raw.drop i)
theorem zeroTo_length (raw : List Int) (i : Nat) (hl : raw.length = 4096) (h1 : 148 ≤ i) (h2 : i ≤ 4096) : (zeroTo raw i).length = 4096 := by simp [zeroTo, hl]; omega
theorem zeroTo_first (raw : List Int) : zeroTo raw 148 = raw := by simp [zeroTo]
theorem zeroTo_step (raw : List Int) (i : Nat) (hl : raw.length = 4096) (h1 : 148 ≤ i) (h2 : i < 4096) : (zeroTo raw i).set i 0 = zeroTo raw (i + 1) := by
  unfold zeroTo
  have hA : (raw.take 148 ++ List.replicate (i - 148) (0 : Int)).length = i := by simp [hl]; omega
  rw [← List.append_assoc, List.set_append_right (h := by rw [hA]; exact Nat.le_refl _), hA, Nat.sub_self, List.drop_eq_getElem_cons (by omega), List.set_cons_zero, show i + 1 - 148 = (i - 148) + 1 from by omega, List.replicate_succ', List.append_assoc, List.append_assoc]
  simp
theorem zeroTo_last {raw : List Int} (h : ownOK raw = true) : zeroTo raw 4096 = encB (raw.take 4) (numAt raw 4 8) (numAt raw 12 4) (numAt raw 16 2) (slotsOf raw) (List.replicate 4096 0) := by
  have hl := ownOK_len h
  have he := (own_enc h).1
  have h4 : (raw.take 4).length = 4 := by rw [List.length_take, hl]; rfl
  have h64 := slotsOf_length raw
  rw [encB_eq _ _ _ _ _ _ h4 h64] at he
  rw [encB_eq _ _ _ _ _ _ h4 h64]
  have ht : raw.take 148 = headB (raw.take 4) (numAt raw 4 8) (numAt raw 12 4) (numAt raw 16 2) ++ slotB (slotsOf raw) := by
    have hx : (headB (raw.take 4) (numAt raw 4 8) (numAt raw 12 4) (numAt raw 16 2) ++ slotB (slotsOf raw)).length = 148 := by rw [List.length_append, headB_length _ _ _ _ h4, slotB_length, h64]
    rw [← List.append_assoc] at he
    conv => lhs; rw [← he]
    rw [List.take_append_of_le_length (by omega), List.take_of_length_le (by omega)]
  unfold zeroTo
  rw [ht, List.drop_of_length_le (by omega), List.append_nil, List.drop_replicate, List.append_assoc]
theorem comp_step {raw sl : List Int} {sum : List Int} {lsn num bot : Int} (h : SlOK sl) (h1 : sum.length = 4) (h2 : sl.length = 64) (hl : raw.length = 4096) (k : Nat) (hk : k < 32) (h0 : ¬ sl.getD (2 * k) 0 = 0) :
    layI (layI (layI (encB sum lsn num bot (cSl sl k) (cBody raw sl k)) (cBot sl (k + 1)).toNat (stretch raw (sl.getD (2 * k) 0) (sl.getD (2 * k + 1) 0))) (20 + 4 * k) (lows (cBot sl (k + 1)) 2)) (20 + 4 * k + 2) (lows (sl.getD (2 * k + 1) 0) 2) = encB sum lsn num bot (cSl sl (k + 1)) (cBody raw sl (k + 1)) := by
  have hb := h.bot (k + 1) (by omega)
  have hb0 := h.bot k (by omega)
  have h3 := h.one k hk
  have hs := cBot_succ sl k
  have hst : (stretch raw (sl.getD (2 * k) 0) (sl.getD (2 * k + 1) 0)).length = (sl.getD (2 * k + 1) 0).toNat := stretch_length raw _ _ hl (by omega) (by omega) (by omega)
  have hc : (cSl sl k).length = 64 := by rw [cSl_length, h2]
  rw [encB_body h1 hc (h.body raw hl k (by omega)) _ _ (by omega) (by rw [hst]; omega)]
  rw [show 20 + 4 * k = 20 + 2 * (2 * k) from by omega, encB_slot h1 hc (2 * k) _ (by omega)]
  rw [show 20 + 2 * (2 * k) + 2 = 20 + 2 * (2 * k + 1) from by omega, encB_slot h1 (by rw [List.length_set]; exact hc) (2 * k + 1) _ (by omega)]
  have e1 : cBody raw sl (k + 1) = layI (cBody raw sl k) (cBot sl (k + 1)).toNat (stretch raw (sl.getD (2 * k) 0) (sl.getD (2 * k + 1) 0)) := by rw [cBody, if_neg h0]
  have e2 : cSl sl (k + 1) = (cSl sl k).set (2 * k) (cBot sl (k + 1)) := by rw [cSl, if_neg h0]
  rw [e1, e2]
  congr 1
  have hg := cSl_at sl k (2 * k + 1) (by omega)
  apply List.ext_getElem?
  intro j
  by_cases hj : j = 2 * k + 1
  · subst hj
    rw [List.getElem?_set_self (by rw [List.length_set, hc]; omega), List.getElem?_set_ne (by omega)]
    rw [← hg, List.getD_eq_getElem?_getD, List.getElem?_eq_getElem (by rw [hc]; omega)]
    rfl
  · rw [List.getElem?_set_ne (by omega)]
theorem specComp_any (v : Value) (raw : List Int) (w : World) (hB : IsB raw) (hn : raw.length ≤ 1099511627776) (hv : Rd .u8 w v raw) :
    Calls Try.prog 29 #[v] w fun e w' => ∃ a c, e = .returned (.slice a (pageCompact raw).length c) ∧ (∀ b, (Value.slice a (pageCompact raw).length c).ownBlock = some b → w.heap.size ≤ b) ∧ Own 0 5 .u8 w' (.slice a (pageCompact raw).length c) (pageCompact raw) ∧ Same w w' := by
  have HV := hid hv
  have HB := hid hB
  have HN := hid hn
  have kO := fun wx hv => l3Own_any v raw wx hB hn hv
  obtain ⟨av, cv, rfl⟩ := hv.form
  clear hv
  by_cases hok : ownOK raw = true
  case neg =>
    have hok' : ownOK raw = false := by simpa using hok
    rw [show pageCompact raw = [] from if_neg hok]
    rw [hok'] at kO
    clear hok hok'
    go_enter Try.func29, Try.ntmps29
    go_wp2_with fail
    refine (kO _ HV.out).mono ?_
    rintro e w1 ⟨rfl, hk1⟩
    have HK1 := hid hk1
    clear hk1
    go_wp2
    go_ret
    exact ⟨_, _, rfl, fun b hb => by have h : w1.heap.size = b := (by simpa [Value.ownBlock] using hb); have := HK1.out.size; omega, World.ownsRow_made w1 #[] 0 (Nat.zero_le _) (by simp) (by simp), HK1.out.alloc _⟩
  have hl := ownOK_len hok
  have HSl := hid (slOK_of hB hok)
  have HOK := hid hok
  have HL := hid hl
  have HZL := hid (zeroTo_last hok)
  have h4 : (raw.take 4).length = 4 := by rw [List.length_take, hl]; rfl
  have H4 := hid h4
  have H64 := hid (slotsOf_length raw)
  have hcb := (slOK_of hB hok).bot 32 (Nat.le_refl _)
  have HPC := hid (show pageCompact raw = layI (encB (raw.take 4) (numAt raw 4 8) (numAt raw 12 4) (numAt raw 16 2) (cSl (slotsOf raw) 32) (cBody raw (slotsOf raw) 32)) 16 (lows (cBot (slotsOf raw) 32) 2) from by rw [encB_bot h4 (by rw [cSl_length, slotsOf_length])]; exact if_pos hok)
  have hpl : (pageCompact raw).length = 4096 := by rw [show pageCompact raw = compB raw from if_pos hok]; exact compB_length hB hok
  rw [hpl]
  have HSM := hid (slotsOf_small raw hB hl)
  rw [hok] at kO
  have kG := fun s wx hv => specPageGet_any (.slice av raw.length cv) raw s wx hB hn hv
  have HGY : Hid (∀ k : Nat, k < 32 → ¬ (slotsOf raw).getD (2 * k) 0 = 0 → pageGet raw (k : Int) = (true, stretch raw ((slotsOf raw).getD (2 * k) 0) ((slotsOf raw).getD (2 * k + 1) 0))) := fun k hk h0 => pageGet_yes hok hk h0
  have HGN : Hid (∀ k : Nat, k < 32 → (slotsOf raw).getD (2 * k) 0 = 0 → pageGet raw (k : Int) = (false, [])) := fun k hk h0 => pageGet_no (.inr (.inr (.inr (by rw [Int.toNat_natCast]; exact h0))))
  obtain ⟨sl, hsl⟩ : ∃ sl, slotsOf raw = sl := ⟨_, rfl⟩
  rw [hsl] at HSl HZL H64 HPC HSM HGY HGN hcb
  obtain ⟨sum, hsum⟩ : ∃ sum, raw.take 4 = sum := ⟨_, rfl⟩
  rw [hsum] at HZL H4 HPC
  obtain ⟨lsn, hlsn⟩ : ∃ x, numAt raw 4 8 = x := ⟨_, rfl⟩
  obtain ⟨num, hnum⟩ : ∃ x, numAt raw 12 4 = x := ⟨_, rfl⟩
  obtain ⟨bot, hbot⟩ : ∃ x, numAt raw 16 2 = x := ⟨_, rfl⟩
  rw [hlsn, hnum, hbot] at HZL HPC
  rw [hl] at kO kG HV ⊢
  clear hok hl h4 hpl hsl hsum hlsn hnum hbot hB hn
  go_enter Try.func29, Try.ntmps29
  go_wp2_with fail
  refine (kO _ HV.out).mono ?_
  rintro e w1 ⟨rfl, hk1⟩
  have HK1 := hid hk1
  clear hk1 kO
  go_wp2_with fail
  refine (l1Copy_any _ raw _ HN.out (HV.out.same HK1.out)).mono ?_
  rintro e w2 ⟨a2, n2, c2, rfl, ho2, hf2, hk2⟩
  obtain ⟨g, e1, e2⟩ : ∃ g, a2 = some ⟨g, 0, none⟩ ∧ n2 = 4096 := by
    rcases ho2.form with ⟨_, h⟩ | ⟨g, cap, h, _⟩
    · have := HL.out; rw [h] at this; simp at this
    · cases h; exact ⟨g, rfl, HL.out⟩
  subst e1
  subst e2
  have HO2 := hid ho2
  have hg1 : w1.heap.size ≤ g := hf2 g rfl
  have HK2 := hid (HK1.out.trans hk2)
  have hz1 := HK1.out.size
  clear ho2 hf2 hk2
  go_wp2_with fail
  go_loopw [4] (fun i wr => ∃ (k : Nat), 148 ≤ k ∧ k ≤ 4096 ∧ i = .int .i64 (k : Int) ∧ Hid (Own 0 5 .u8 wr (.slice (some ⟨g, 0, none⟩) 4096 c2) (zeroTo raw k)) ∧ Hid (Same w wr)) (fun i _ => 4096 - (intOf i).toNat)
  case atStart => exact ⟨148, Nat.le_refl _, by omega, rfl, by rw [zeroTo_first]; exact HO2, HK2⟩
  case round =>
    obtain ⟨k, hk1, hk2, rfl, HO, HK⟩ := hrel
    by_cases hlt : k < 4096
    · have hzl := zeroTo_length raw k HL.out hk1 hk2
      have u0 := HO.out.cell hzl.symm k hlt
      have uf := HO.out.frozen hzl.symm k
      have HST := hid (HO.out.stored hzl.symm k 0)
      rw [zeroTo_step raw k HL.out hk1 hlt] at HST
      generalize (zeroTo raw k).getD k 0 = uold at u0
      clear hzl
      go_wp2
      go_roundw
      case rel => exact ⟨k + 1, by omega, by omega, by go_num, HST, HK.out.setCell (.inl (by dsimp only; omega)) _⟩
      case measure => simp [intOf]; omega
    have hkk : k = 4096 := by omega
    rw [hkk, HZL.out] at HO
    have hnlt : ¬ (k : Int) < 4096 := by omega
    clear hkk hk1 hk2 hlt
    clear HO2 HK2
    go_wp2_with fail
    clear hnlt
    go_loopw [5, 6] (fun b i wx => ∃ (k : Nat), k ≤ 32 ∧ b = .int .i64 (cBot sl k) ∧ i = .int .i64 (k : Int) ∧ Hid (Own 0 5 .u8 wx (.slice (some ⟨g, 0, none⟩) 4096 c2) (encB sum lsn num bot (cSl sl k) (cBody raw sl k))) ∧ Hid (Same w wx)) (fun _ i _ => 32 - (intOf i).toNat)
    case atStart => exact ⟨0, Nat.zero_le _, rfl, rfl, HO, HK⟩
    case round =>
      clear HO HK
      obtain ⟨k, hk, rfl, rfl, HO, HK⟩ := hrel
      by_cases hlt : k < 32
      case pos =>
        have kG := fun wx hv => kG (k : Int) wx hv
        have h1 := HSl.out.one k hlt
        have hb0 := HSl.out.bot k hk
        have hb1 := HSl.out.bot (k + 1) (by omega)
        have hbs := cBot_succ sl k
        by_cases h0 : sl.getD (2 * k) 0 = 0
        · rw [HGN.out k hlt h0] at kG
          have hlen0 : sl.getD (2 * k + 1) 0 = 0 := by omega
          have HSL := hid (show cSl sl (k + 1) = cSl sl k from by rw [cSl, if_pos h0])
          have HBD := hid (show cBody raw sl (k + 1) = cBody raw sl k from by rw [cBody, if_pos h0])
          have HBT := hid (show cBot sl (k + 1) = cBot sl k from by omega)
          clear h1 hbs hlen0 h0
          go_wp2_with fail
          refine (kG _ (HV.out.same HK.out)).mono ?_
          rintro e w4 ⟨⟨u, ⟨te, ta, tc, tb⟩⟩, rfl, hd, hf, ho, hk4⟩
          obtain ⟨rfl, rfl⟩ : u = false ∧ tb = [] := by simpa [StPageRecord.dat] using hd
          dsimp only [StPageRecord.val, BS.v]
          have HK4 := hid hk4
          clear hd hf ho hk4
          go_wp2
          go_roundw
          case rel => exact ⟨k + 1, by omega, by rw [HBT.out], by go_num, by rw [HSL.out, HBD.out]; exact HO.out.same (HK4.out.alloc _), (HK.out.trans HK4.out).alloc _⟩
          case measure => simp [intOf]; omega
        · rw [HGY.out k hlt h0] at kG
          have HSTEP := hid (comp_step (raw := raw) (sum := sum) (lsn := lsn) (num := num) (bot := bot) HSl.out H4.out H64.out HL.out k hlt h0)
          have hstl : (stretch raw (sl.getD (2 * k) 0) (sl.getD (2 * k + 1) 0)).length = (sl.getD (2 * k + 1) 0).toNat := stretch_length raw _ _ HL.out (by omega) (by omega) (by omega)
          obtain ⟨yn, hyn⟩ : ∃ n : Nat, sl.getD (2 * k + 1) 0 = (n : Int) := ⟨(sl.getD (2 * k + 1) 0).toNat, by omega⟩
          obtain ⟨bn, hbn⟩ : ∃ n : Nat, cBot sl (k + 1) = (n : Int) := ⟨(cBot sl (k + 1)).toNat, by omega⟩
          have HBN := hid hbn
          rw [hyn] at HSTEP hstl kG hbs h1
          rw [hbn] at HSTEP hbs hb1
          rw [Int.toNat_natCast] at HSTEP hstl
          generalize stretch raw (sl.getD (2 * k) 0) (yn : Int) = st at *
          have hel : (encB sum lsn num bot (cSl sl k) (cBody raw sl k)).length = 4096 := encB_length H4.out (by rw [cSl_length, H64.out]) (HSl.out.body raw HL.out k hk)
          obtain ⟨E, hE⟩ : ∃ E, encB sum lsn num bot (cSl sl k) (cBody raw sl k) = E := ⟨_, rfl⟩
          rw [hE] at HO HSTEP hel
          obtain ⟨cb, hcb0⟩ : ∃ x, cBot sl k = x := ⟨_, rfl⟩
          rw [hcb0] at hbs hb0 ⊢
          have HEL := hid hel
          have HST := hid hstl
          have q1 : IntKind.i64.wrap (cb - (yn : Int)) = (bn : Int) := by rw [IntKind.wrap_i64]; omega
          have hbn2 : 148 ≤ bn ∧ bn + yn ≤ 4096 := by omega
          have hc2 : 4096 ≤ c2 := HO.out.caps.2
          have g1 : (bn : Int) ≤ (c2 : Int) := by omega
          have g2 : (bn : Int) ≤ 4096 := by omega
          obtain ⟨ab, hab⟩ : ∃ ab : Option Addr, (if c2 = bn then some (⟨g, 0, none⟩ : Addr) else some ⟨g, bn, none⟩) = ab := ⟨_, rfl⟩
          have HAB := (show Hid (behind g c2 bn = ab) from hab)
          clear h1 hbs hyn hbn hel hstl h0 hb0 hE hcb0
          go_wp2_with fail
          refine (kG _ (HV.out.same HK.out)).mono ?_
          rintro e w4 ⟨⟨u, ⟨te, ta, tc, tb⟩⟩, rfl, hd, hf, ho, hk4⟩
          obtain ⟨rfl, htb⟩ : u = true ∧ tb = st := by simpa [StPageRecord.dat] using hd
          have HR4 := (show Hid (Rd .u8 w4 (.slice ta tb.length tc) tb) from (OwnL.of_one ho).rd)
          dsimp only [StPageRecord.val, BS.v]
          rw [htb] at HR4 ⊢
          have HK4 := hid hk4
          have HF4 : Hid (g < wr.heap.size) := (HO.out.lt g rfl).2
          rw [HST.out] at HR4 ⊢
          clear hd hf ho hk4 kG htb
          have HB4 := hid (Blk.newL w4 [.bool true, .slice ta yn tc] 24)
          have hz4 := HK4.out.size
          go_wp2_with fail
          have HK5 := (show Hid (Same wr (w4.alloc (.cells #[.bool true, .slice ta yn tc] 24))) from HK4.out.alloc _)
          have HR5 := hid (HR4.out.same ((Kept.refl _ _).alloc (.cells #[.bool true, .slice ta yn tc] 24)))
          generalize w4.alloc (.cells #[.bool true, .slice ta yn tc] 24) = w5 at HB4 HK5 HR5 ⊢
          obtain ⟨m0, m1⟩ := HB4.out.all2
          have hS : (fun wx : World => wx.cell? ⟨w4.heap.size, 1, none⟩ = some (.slice ta yn tc)) w5.drew := m1
          refine wp_region_V (fun wx : World => wx.cell? ⟨w4.heap.size, 1, none⟩ = some (.slice ta yn tc)) 99 6 rfl (by kernel_rfl) ?_
          refine tk 0 36 hS ?_
          refine tk 1 37 hS ?_
          refine tkV 2 38 (.slice ab (4096 - bn) (c2 - bn)) hS ?_
          refine tk 3 39 hS ?_
          refine tk 4 40 hS ?_
          have HO5 := hid ((HO.out.same HK5.out).same (Kept.refl _ _).drew)
          have hcp := run_copyOwn (P := Try.prog) 3 Try.underlying22 byte_one HO5.out HEL.out.symm bn (by rw [HST.out]; omega) (HR5.out.same (Kept.refl _ _).drew)
          rw [HAB.out, HST.out] at hcp
          have HL5 := hid (HO5.out.laid HEL.out.symm bn st (by rw [HST.out]; omega))
          refine wpAnyV_one (i := 5) (by kernel_rfl) rfl (fun K hK => ?_)
          go_simp
          have HK6 := (show Hid (Kept (fun b => b = g) wr (w5.drew.setCells g bn (vals .u8 st))) from Kept.setCells (R := fun b => b = g) (.inr rfl) _ _ ((HK5.out.drew).mono (fun _ _ e => e.elim)))
          have hgw : ¬ w4.heap.size = g := by have := HF4.out; omega
          have hk56 : Kept (fun b => b = g) w5 (w5.drew.setCells g bn (vals .u8 st)) := Kept.setCells (R := fun b => b = g) (.inr rfl) _ _ (Kept.refl _ _).drew
          have HB6 := hid (HB4.out.kept hk56 hgw)
          refine hK.out _ _ (fun _ => HB6.out.cell 1) ?_
          clear hK K hcp hk56
          try simp only [Act.put, sA, s0, sS]
          refine wpAnyV_done (by kernel_rfl) ?_
          generalize w5.drew.setCells g bn (vals .u8 st) = w6 at HL5 HK6 HB6 ⊢
          clear m0 m1 hS
          obtain ⟨m0, m1⟩ := HB6.out.all2
          have hll : (layI E bn st).length = 4096 := by rw [layI_length _ _ _ (by rw [HST.out, HEL.out]; omega), HEL.out]
          go_wp2_with fail
          refine (l3Set_any g c2 (layI E bn st) k (bn : Int) (yn : Int) w6 hll hlt (by omega) (by omega) HL5.out).mono ?_
          rintro e w7 ⟨rfl, ho7, hk7⟩
          rw [HSTEP.out] at ho7
          have HO7 := hid ho7
          have HK7 := hid (HK6.out.trans hk7)
          clear ho7 hk7 hll
          go_wp2
          go_roundw
          case rel => exact ⟨k + 1, by omega, by rw [HBN.out], by go_num, HO7, HK.out.next HK7.out (fun i hi e => by omega)⟩
          case measure => simp [intOf]; omega
      obtain rfl : k = 32 := by omega
      obtain ⟨bn, hbn⟩ : ∃ n : Nat, cBot sl 32 = (n : Int) := ⟨(cBot sl 32).toNat, by omega⟩
      have hel : (encB sum lsn num bot (cSl sl 32) (cBody raw sl 32)).length = 4096 := encB_length H4.out (by rw [cSl_length, H64.out]) (HSl.out.body raw HL.out 32 hk)
      have HEL := hid hel
      have kP := fun wx => put2_any (cBot sl 32) wx (by omega) (by omega)
      have hc2 : 4096 ≤ c2 := HO.out.caps.2
      have n1 : ¬ c2 = 16 := by omega
      have g1 : (16 : Int) ≤ (c2 : Int) := by omega
      obtain ⟨cb, hcb0⟩ : ∃ x, cBot sl 32 = x := ⟨_, rfl⟩
      rw [hcb0] at kP ⊢ HPC
      obtain ⟨E, hE⟩ : ∃ E, encB sum lsn num bot (cSl sl 32) (cBody raw sl 32) = E := ⟨_, rfl⟩
      rw [hE] at HO HEL HPC
      clear hel hbn hcb hcb0 hE
      go_wp2_with fail
      have hS : (fun _ : World => True) wr.drew := by trivial
      refine wp_region_V (fun _ : World => True) 99 5 rfl (by kernel_rfl) ?_
      refine tk 0 49 hS ?_
      refine tkV 1 50 (.slice (some ⟨g, 16, none⟩) (4096 - 16) (c2 - 16)) hS ?_
      refine tk 2 51 hS ?_
      refine wpAnyV_one (i := 3) (by kernel_rfl) rfl (fun K hK => ?_)
      go_simp
      refine (kP _).mono ?_
      rintro e w3 ⟨a3, c3, rfl, hr3, hk3⟩
      have HK3 : Hid (Same wr w3) := (Kept.refl _ _).drew.trans hk3
      have HO3 := hid (HO.out.same HK3.out)
      have hcp3 := run_copyOwn (P := Try.prog) 3 Try.underlying22 byte_one HO3.out HEL.out.symm 16 (by rw [lows_length]; omega) hr3
      rw [show behind g c2 16 = some ⟨g, 16, none⟩ from if_neg n1, lows_length] at hcp3
      have HL3 := hid (HO3.out.laid HEL.out.symm 16 (lows cb 2) (by rw [lows_length]; omega))
      refine hK.out _ _ (fun _ => trivial) ?_
      clear hK K hk3 hr3
      try simp only [Act.put, sA, s0, sS]
      refine wpAnyV_one (i := 4) (by kernel_rfl) rfl (fun K hK => ?_)
      go_simp
      refine hK.out _ _ (fun _ => trivial) ?_
      clear hK K
      try simp only [Act.put, sA, s0, sS]
      refine wpAnyV_done (by kernel_rfl) ?_
      rw [← HPC.out] at HL3
      have HK4 := (show Hid (Same w (w3.setCells g 16 (vals .u8 (lows cb 2)))) from Kept.setCells (.inl (by omega)) _ _ (HK.out.trans HK3.out))
      clear hcp3
      go_wp2
      go_ret
      exact ⟨_, _, rfl, fun b hb => by have h : g = b := (by simpa [Value.ownBlock] using hb); omega, HL3.out, HK4.out⟩
end Go.Proofs.Ytdgkidlpkhfbkaa

namespace Go.Proofs.Ytdgkidlpkhfbkaa
open Go.RowKit
set_option linter.unusedVariables false
set_option maxRecDepth 100000 in
set_option maxHeartbeats 16000000 in
theorem pageCompact_law (v0 : Value) (bs0 : List Int) (w : World) (hv0 : Rd .u8 w v0 bs0) (hB0 : IsB bs0) :
    Calls Try.prog 5 #[v0] w fun e w' => e = .returned (.bool true) ∧ Same w w' := by
  obtain ⟨a0a, c0a, rfl⟩ := hv0.form
  have hm0 := hv0.1
  unfold maxLen at hm0
  have HB0 := (show Hid (IsB bs0) from hB0)
  clear hB0
  have HV0 := (show Hid (Rd .u8 w (.slice a0a bs0.length c0a) bs0) from hv0)
  clear hv0
  go_enter Try.func5, Try.ntmps5
  have HKw : Hid (Same w w) := Kept.refl _ _
  by_cases hb0 : (1048576 : Int) < (bs0.length : Int)
  · go_wp2
    go_ret
    exact ⟨rfl, by first | exact Kept.refl _ _ | exact (Kept.refl _ _).alloc _ | exact ((Kept.refl _ _).alloc _).alloc _⟩
  go_wp2_with fail
  refine (toByteS_any _ bs0 _ (by omega) (HV0.out.same HKw.out)).mono ?_
  rintro e w1 ⟨gC0, rfl, hf, ho, hk⟩
  have hf : ∀ b, (Value.slice (some ⟨gC0, 0, none⟩) bs0.length bs0.length).ownBlock = some b → _ ≤ b := fun b hb => by rw [← (Option.some.inj hb : gC0 = b)]; exact hf
  have HFC0 := (show Hid (∀ b, (Value.slice (some ⟨gC0, 0, none⟩) bs0.length bs0.length).ownBlock = some b → w.heap.size ≤ b ∧ b < w1.heap.size) from fun b hb => ⟨hf b hb, (ho.lt b hb).2⟩)
  have HC0w1 := (show Hid (Own 0 5 .u8 w1 (.slice (some ⟨gC0, 0, none⟩) bs0.length bs0.length) bs0) from ho)
  clear hf ho
  have hkk : Same w w1 := hk
  have hzw1 := hkk.size
  have HKw1 := (show Hid (Same w w1) from HKw.out.trans hkk)
  clear hkk hk
  go_wp2_with fail
  refine (specComp_any _ bs0 _ HB0.out (by omega) (HC0w1.out.rd)).mono ?_
  rintro e w2 ⟨aW, cW, rfl, hf, ho, hk⟩
  have hrl : (pageCompact bs0).length ≤ 1048576 := Nat.le_trans (pageCompact_length HB0.out) (by omega)
  obtain ⟨r0, hR⟩ : ∃ r, pageCompact bs0 = r := ⟨_, rfl⟩
  have HR : Hid (pageCompact bs0 = r0) := hR
  rw [hR] at hrl
  clear hR
  rw [HR.out] at hf ho ⊢
  have HFW := (show Hid (∀ b, (Value.slice aW r0.length cW).ownBlock = some b → w1.heap.size ≤ b ∧ b < w2.heap.size) from fun b hb => ⟨hf b hb, (ho.lt b hb).2⟩)
  have HWw2 := (show Hid (Own 0 5 .u8 w2 (.slice aW r0.length cW) r0) from ho)
  clear hf ho
  have hkk : Same w1 w2 := hk
  have hzw2 := hkk.size
  have HC0w2 := (show Hid (Own 0 5 .u8 w2 (.slice (some ⟨gC0, 0, none⟩) bs0.length bs0.length) bs0) from HC0w1.out.same hkk)
  have HKw2 := (show Hid (Same w w2) from HKw1.out.trans hkk)
  clear hkk hk
  go_wp2_with fail
  refine (toByteS_any _ bs0 _ (by omega) (HV0.out.same HKw2.out)).mono ?_
  rintro e w3 ⟨gX0, rfl, hf, ho, hk⟩
  have hf : ∀ b, (Value.slice (some ⟨gX0, 0, none⟩) bs0.length bs0.length).ownBlock = some b → _ ≤ b := fun b hb => by rw [← (Option.some.inj hb : gX0 = b)]; exact hf
  have HFX0 := (show Hid (∀ b, (Value.slice (some ⟨gX0, 0, none⟩) bs0.length bs0.length).ownBlock = some b → w2.heap.size ≤ b ∧ b < w3.heap.size) from fun b hb => ⟨hf b hb, (ho.lt b hb).2⟩)
  have HX0w3 := (show Hid (Own 0 5 .u8 w3 (.slice (some ⟨gX0, 0, none⟩) bs0.length bs0.length) bs0) from ho)
  clear hf ho
  have hkk : Same w2 w3 := hk
  have hzw3 := hkk.size
  have HWw3 := (show Hid (Own 0 5 .u8 w3 (.slice aW r0.length cW) r0) from HWw2.out.same hkk)
  have HKw3 := (show Hid (Same w w3) from HKw2.out.trans hkk)
  clear hkk hk
  go_wp2_with fail
  refine (implComp_any _ bs0 _ HB0.out (by omega) (HX0w3.out.rd)).mono ?_
  rintro e w4 ⟨aG, cG, rfl, hf, ho, hk⟩
  rw [HR.out] at hf ho ⊢
  have HFG := (show Hid (∀ b, (Value.slice aG r0.length cG).ownBlock = some b → w3.heap.size ≤ b ∧ b < w4.heap.size) from fun b hb => ⟨hf b hb, (ho.lt b hb).2⟩)
  have HGw4 := (show Hid (Own 0 55 .u8 w4 (.slice aG r0.length cG) r0) from ho)
  clear hf ho
  have hkk : Same w3 w4 := hk
  have hzw4 := hkk.size
  have HWw4 := (show Hid (Own 0 5 .u8 w4 (.slice aW r0.length cW) r0) from HWw3.out.same hkk)
  have HX0w4 := (show Hid (Own 0 5 .u8 w4 (.slice (some ⟨gX0, 0, none⟩) bs0.length bs0.length) bs0) from HX0w3.out.same hkk)
  have HKw4 := (show Hid (Same w w4) from HKw3.out.trans hkk)
  clear hkk hk
  go_wp2_with fail
  refine (eqByteS_own 0 _ _ r0 _ (by omega) HGw4.out HWw4.out).mono ?_
  rintro e w5 ⟨rfl, nn, hww⟩
  have hk : Same w4 w5 := by rw [hww]; exact (Kept.refl _ _).drewN _
  clear hww
  have hkk : Same w4 w5 := hk
  have hzw5 := hkk.size
  have HWw5 := (show Hid (Own 0 5 .u8 w5 (.slice aW r0.length cW) r0) from HWw4.out.same hkk)
  have HX0w5 := (show Hid (Own 0 5 .u8 w5 (.slice (some ⟨gX0, 0, none⟩) bs0.length bs0.length) bs0) from HX0w4.out.same hkk)
  have HGw5 := (show Hid (Own 0 55 .u8 w5 (.slice aG r0.length cG) r0) from HGw4.out.same hkk)
  have HKw5 := (show Hid (Same w w5) from HKw4.out.trans hkk)
  clear hkk hk
  go_wp2_with fail
  refine (toByteS_any _ bs0 _ (by omega) (HV0.out.same HKw5.out)).mono ?_
  rintro e w6 ⟨gD0, rfl, hf, ho, hk⟩
  have hf : ∀ b, (Value.slice (some ⟨gD0, 0, none⟩) bs0.length bs0.length).ownBlock = some b → _ ≤ b := fun b hb => by rw [← (Option.some.inj hb : gD0 = b)]; exact hf
  have HFD0 := (show Hid (∀ b, (Value.slice (some ⟨gD0, 0, none⟩) bs0.length bs0.length).ownBlock = some b → w5.heap.size ≤ b ∧ b < w6.heap.size) from fun b hb => ⟨hf b hb, (ho.lt b hb).2⟩)
  have HD0w6 := (show Hid (Own 0 5 .u8 w6 (.slice (some ⟨gD0, 0, none⟩) bs0.length bs0.length) bs0) from ho)
  clear hf ho
  have hkk : Same w5 w6 := hk
  have hzw6 := hkk.size
  have HWw6 := (show Hid (Own 0 5 .u8 w6 (.slice aW r0.length cW) r0) from HWw5.out.same hkk)
  have HX0w6 := (show Hid (Own 0 5 .u8 w6 (.slice (some ⟨gX0, 0, none⟩) bs0.length bs0.length) bs0) from HX0w5.out.same hkk)
  have HGw6 := (show Hid (Own 0 55 .u8 w6 (.slice aG r0.length cG) r0) from HGw5.out.same hkk)
  have HKw6 := (show Hid (Same w w6) from HKw5.out.trans hkk)
  clear hkk hk
  go_wp2_with fail
  refine (eqByteS_own 0 _ _ bs0 _ (by omega) HX0w6.out HD0w6.out).mono ?_
  rintro e w7 ⟨rfl, nn, hww⟩
  have hk : Same w6 w7 := by rw [hww]; exact (Kept.refl _ _).drewN _
  clear hww
  have hkk : Same w6 w7 := hk
  have hzw7 := hkk.size
  have HWw7 := (show Hid (Own 0 5 .u8 w7 (.slice aW r0.length cW) r0) from HWw6.out.same hkk)
  have HX0w7 := (show Hid (Own 0 5 .u8 w7 (.slice (some ⟨gX0, 0, none⟩) bs0.length bs0.length) bs0) from HX0w6.out.same hkk)
  have HGw7 := (show Hid (Own 0 55 .u8 w7 (.slice aG r0.length cG) r0) from HGw6.out.same hkk)
  have HKw7 := (show Hid (Same w w7) from HKw6.out.trans hkk)
  clear hkk hk
  have hE0 : (0 : Int) ≤ 1 := by omega
  have hE0b : (1 : Int) ≤ 1 := by omega
  go_wp2_with fail
  refine (markByteS_own 0 _ bs0 1 _ (by omega) (by omega) (by omega) HX0w7.out).mono ?_
  rintro e w8 ⟨rfl, _, hk⟩
  obtain ⟨E1, hE⟩ : ∃ E : Int, 1 + (bs0.length : Int) = E := ⟨_, rfl⟩
  have hE1 : 0 ≤ E1 := by omega
  have hE1b : E1 ≤ 7000001 := by omega
  rw [hE]
  clear hE
  have hzw8 := hk.size
  have HWw8 := (show Hid (Own 0 5 .u8 w8 (.slice aW r0.length cW) r0) from HWw7.out.kept hk (fun b hb e => by have h1 := HFX0.out _ e; have h2 := HFW.out b hb; omega))
  have HGw8 := (show Hid (Own 0 55 .u8 w8 (.slice aG r0.length cG) r0) from HGw7.out.kept hk (fun b hb e => by have h1 := HFX0.out _ e; have h2 := HFG.out b hb; omega))
  have HKw8 := (show Hid (Same w w8) from HKw7.out.next hk (fun b hb e => by have h1 := HFX0.out _ e; omega))
  clear hk
  have hEn : ¬ E1 < 0 := by omega
  go_wp2_with fail
  refine (eqByteS_own 0 _ _ r0 _ (by omega) HGw8.out HWw8.out).mono ?_
  rintro e w9 ⟨rfl, nn, hww⟩
  have hk : Same w8 w9 := by rw [hww]; exact (Kept.refl _ _).drewN _
  clear hww
  have hkk : Same w8 w9 := hk
  have hzw9 := hkk.size
  have HWw9 := (show Hid (Own 0 5 .u8 w9 (.slice aW r0.length cW) r0) from HWw8.out.same hkk)
  have HGw9 := (show Hid (Own 0 55 .u8 w9 (.slice aG r0.length cG) r0) from HGw8.out.same hkk)
  have HKw9 := (show Hid (Same w w9) from HKw8.out.trans hkk)
  clear hkk hk
  have hM2 : ¬ (1 + (r0.length : Int)) < 0 := by omega
  go_wp2_with fail
  refine (markByteS_own 0 _ r0 1 _ (by omega) (by omega) (by omega) HGw9.out).mono ?_
  rintro e w10 ⟨rfl, ho, hk⟩
  have hzw10 := hk.size
  have HWw10 := (show Hid (Own 0 5 .u8 w10 (.slice aW r0.length cW) r0) from HWw9.out.kept hk (fun b hb e => by have h1 := HFG.out _ e; have h2 := HFW.out b hb; omega))
  have HKw10 := (show Hid (Same w w10) from HKw9.out.next hk (fun b hb e => by have h1 := HFG.out _ e; omega))
  have HUw10 := (show Hid (Own 0 55 .u8 w10 (.slice aG r0.length cG) (marks 1 r0.length)) from ho)
  clear hk ho
  go_wp2_with fail
  refine (heldByteS_own 0 _ r0.length 1 _ (by omega) (by omega) (by omega) HUw10.out).mono ?_
  rintro e w11 ⟨rfl, hww⟩
  have hk : Same w10 w11 := by rw [hww]; exact Kept.refl _ _
  clear hww
  have hkk : Same w10 w11 := hk
  have hzw11 := hkk.size
  have HWw11 := (show Hid (Own 0 5 .u8 w11 (.slice aW r0.length cW) r0) from HWw10.out.same hkk)
  have HUw11 := (show Hid (Own 0 55 .u8 w11 (.slice aG r0.length cG) (marks 1 r0.length)) from HUw10.out.same hkk)
  have HKw11 := (show Hid (Same w w11) from HKw10.out.trans hkk)
  clear hkk hk
  go_wp2_with fail
  refine (toByteS_any _ bs0 _ (by omega) (HV0.out.same HKw11.out)).mono ?_
  rintro e w12 ⟨gJ0, rfl, hf, ho, hk⟩
  have hf : ∀ b, (Value.slice (some ⟨gJ0, 0, none⟩) bs0.length bs0.length).ownBlock = some b → _ ≤ b := fun b hb => by rw [← (Option.some.inj hb : gJ0 = b)]; exact hf
  have HFJ0 := (show Hid (∀ b, (Value.slice (some ⟨gJ0, 0, none⟩) bs0.length bs0.length).ownBlock = some b → w11.heap.size ≤ b ∧ b < w12.heap.size) from fun b hb => ⟨hf b hb, (ho.lt b hb).2⟩)
  have HJ0w12 := (show Hid (Own 0 5 .u8 w12 (.slice (some ⟨gJ0, 0, none⟩) bs0.length bs0.length) bs0) from ho)
  clear hf ho
  have hkk : Same w11 w12 := hk
  have hzw12 := hkk.size
  have HWw12 := (show Hid (Own 0 5 .u8 w12 (.slice aW r0.length cW) r0) from HWw11.out.same hkk)
  have HUw12 := (show Hid (Own 0 55 .u8 w12 (.slice aG r0.length cG) (marks 1 r0.length)) from HUw11.out.same hkk)
  have HKw12 := (show Hid (Same w w12) from HKw11.out.trans hkk)
  clear hkk hk
  go_wp2_with fail
  refine (implComp_any _ bs0 _ HB0.out (by omega) (HJ0w12.out.rd)).mono ?_
  rintro e w13 ⟨aL, cL, rfl, hf, ho, hk⟩
  rw [HR.out] at hf ho ⊢
  have HFL := (show Hid (∀ b, (Value.slice aL r0.length cL).ownBlock = some b → w12.heap.size ≤ b ∧ b < w13.heap.size) from fun b hb => ⟨hf b hb, (ho.lt b hb).2⟩)
  have HLw13 := (show Hid (Own 0 55 .u8 w13 (.slice aL r0.length cL) r0) from ho)
  clear hf ho
  have hkk : Same w12 w13 := hk
  have hzw13 := hkk.size
  have HWw13 := (show Hid (Own 0 5 .u8 w13 (.slice aW r0.length cW) r0) from HWw12.out.same hkk)
  have HUw13 := (show Hid (Own 0 55 .u8 w13 (.slice aG r0.length cG) (marks 1 r0.length)) from HUw12.out.same hkk)
  have HJ0w13 := (show Hid (Own 0 5 .u8 w13 (.slice (some ⟨gJ0, 0, none⟩) bs0.length bs0.length) bs0) from HJ0w12.out.same hkk)
  have HKw13 := (show Hid (Same w w13) from HKw12.out.trans hkk)
  clear hkk hk
  go_wp2_with fail
  refine (eqByteS_own 0 _ _ r0 _ (by omega) HLw13.out HWw13.out).mono ?_
  rintro e w14 ⟨rfl, nn, hww⟩
  have hk : Same w13 w14 := by rw [hww]; exact (Kept.refl _ _).drewN _
  clear hww
  have hkk : Same w13 w14 := hk
  have hzw14 := hkk.size
  have HWw14 := (show Hid (Own 0 5 .u8 w14 (.slice aW r0.length cW) r0) from HWw13.out.same hkk)
  have HUw14 := (show Hid (Own 0 55 .u8 w14 (.slice aG r0.length cG) (marks 1 r0.length)) from HUw13.out.same hkk)
  have HLw14 := (show Hid (Own 0 55 .u8 w14 (.slice aL r0.length cL) r0) from HLw13.out.same hkk)
  have HKw14 := (show Hid (Same w w14) from HKw13.out.trans hkk)
  clear hkk hk
  go_wp2_with fail
  refine (heldByteS_own 0 _ r0.length 1 _ (by omega) (by omega) (by omega) HUw14.out).mono ?_
  rintro e w15 ⟨rfl, hww⟩
  have hk : Same w14 w15 := by rw [hww]; exact Kept.refl _ _
  clear hww
  have hkk : Same w14 w15 := hk
  have hzw15 := hkk.size
  have HUw15 := (show Hid (Own 0 55 .u8 w15 (.slice aG r0.length cG) (marks 1 r0.length)) from HUw14.out.same hkk)
  have HKw15 := (show Hid (Same w w15) from HKw14.out.trans hkk)
  clear hkk hk
  go_wp2
  go_ret
  exact ⟨rfl, HKw15.out⟩
end Go.Proofs.Ytdgkidlpkhfbkaa

namespace Go.Proofs.Ytdgkidlpkhfbkaa.fnExactPageCompact
open Go.ChangeShapes Go.WideShapes Go.ChangeAt Go.RowKit
set_option linter.unusedVariables false
theorem own : ownKnob Try.prog.godebug = none := by kernel_rfl
theorem laidOut : laidOutB Try.prog = true := by kernel_rfl
set_option maxRecDepth 100000 in
theorem lifted (os : Os) (started : os.Started) (H : Type) (enc : TypeId × Value → H) :
    ReturnsInHanded {} Try.checked os 5 .any (Rows.fnExactPageCompactSpec.pre6 enc Try.prog Try.f5 Rows.fnExactPageCompactRow.domain false) (Rows.fnExactPageCompactSpec.post enc Try.prog Try.f5 false true false false) := by
  refine returnsInHanded_of_change (C := Try.checked) own started (by kernel_rfl) Try.func5
    (ChangeSpec.witness6 (enc := enc) (C := Try.checked) false ⟨#[], #[.slice none 0 0], []⟩ 8 (by kernel_rfl) (by kernel_rfl) (by kernel_rfl) (by kernel_rfl)) ?_
  intro W base args ds gs before hval0 hW hcnd _
  have hval : ∀ (j : Nat) t v, Try.f5.params[j]? = some t → args[j]? = some v → Value.okWide Try.prog W .any base t v := hval0
  have hW' := hW
  obtain ⟨p, q, hA0, hV, rfl, hfz, hnd⟩ := hW
  have hA : DataW.TrodAll enc Try.prog W 0 (fun _ => true) true Try.f5.params.toList args.toList ds p := hA0
  rw [Try.params5] at hA hval
  obtain ⟨v0, vs0, d0, ds0, p0, q0, hargs, rfl, rfl, h0, r0⟩ := trodAll_cons hA
  obtain ⟨rfl, rfl, rfl⟩ := trodAll_nil r0
  obtain rfl : args = #[v0] := by cases args; simp_all
  obtain ⟨rfl, rfl⟩ := trodVars_none hV
  have k0 := h0
  have lt0 : ∀ x ∈ p0, x.block < W.heap.size := by obtain ⟨m, hm⟩ := k0; exact DataW.trod_lt m _ _ _ hm
  obtain ⟨x0, rd0, bd0⟩ := open_bytesB (hval 0 22 v0 rfl rfl) h0
  clear hA0 hval0
  refine (pageCompact_law v0 x0 W rd0 bd0).mono fun e W' ⟨he, hk⟩ => ?_
  have bel : Below W.heap.size W W' := hk.below (Nat.le_refl _) (fun _ _ => id)
  subst he
  exact ⟨_, rfl, _, _, _, [], _, [], hW', trodAll_mk1 (shut_bool Try.underlying4 _), (trodAll_cons_mk (Below.trod laidOut (by kernel_rfl) (of_decide_eq_true (by kernel_rfl)) k0 bel lt0) trodAll_mk0), rfl, bel.frame _, fun h => by cases h⟩
theorem over : Rows.fnExactPageCompactRow.holds Try.pinned (OpenSpec.ofChange Rows.fnExactPageCompactSpec) :=
  OpenClaim.holds_of_wide 5 Try.f5 rfl rfl rfl rfl rfl rfl rfl ⟨rfl, rfl, rfl, rfl, rfl⟩ rfl rfl rfl rfl rfl (by kernel_rfl) Try.func5 (by kernel_rfl)
    (of_decide_eq_true (by kernel_rfl)) (by unfold Func.isWrapper; first | (rw [if_pos (by decide +kernel)]; kernel_rfl) | (rw [if_neg (by decide +kernel)]; exact ⟨rfl, rfl⟩))
    (fun os started H enc _ => lifted os started H enc)
end Go.Proofs.Ytdgkidlpkhfbkaa.fnExactPageCompact
namespace Go.Proofs.Ytdgkidlpkhfbkaa
theorem pageCompact_proved : Rows.FnExactPageCompactSaid := fnExactPageCompact.over
#print axioms pageCompact_proved
end Go.Proofs.Ytdgkidlpkhfbkaa
