/-
 Texts that are laid as one: IVer, IVOk.
-/
import Derived.Test.YtllmclmcncolcaaGreatDoorIRoots
import Derived.Test.YtllmclmcncolcaaGreatDoorClis
import Derived.Test.YtllmclmcncolcaaGreatDoorVoteL
import Derived.Deep.RegionHeld3
namespace Go.Proofs.YtllmclmcncolcaaGreatDoor
open Go.RowKit
set_option linter.unusedVariables false
set_option maxRecDepth 100000 in
set_option maxHeartbeats 1000000 in
theorem impl_verify (root msg:List UInt8) (i:Int) (ao ap:Option Addr) (co cp:Nat) (os ps:List (List UInt8)) (w:World) (hm:msg.length≤1048576) (hol:os.length≤1048576) (hom:∀ l∈os,l.length≤1048576) (hpl:ps.length≤1048576) (hpm:∀ l∈ps,l.length≤1048576) (hs:IsStrs w ao os) (hp:IsStrs w ap ps) (hT:Tab w) (r:List UInt8) (ok:Bool) (hr:RootIs msg i os ps r ok) :
 Calls Tryz.prog 90 #[.string ⟨root.toArray⟩,.string ⟨msg.toArray⟩,.agg #[.int .i64 i,.slice ao os.length co,.slice ap ps.length cp]] w fun e w'=>e=.returned (.bool (ok && decide (r=root)))∧Below w.heap.size w w':=by
 have B1:Below w.heap.size w (w.alloc (.cells #[.int .i64 i,.slice ao os.length co,.slice ap ps.length cp] 72)):=(Below.refl _ _).alloc (Nat.le_refl _) _
 have K:=impl_root_any msg i ao ap co cp os ps (w.alloc (.cells #[.int .i64 i,.slice ao os.length co,.slice ap ps.length cp] 72)) hm hol hom hpl hpm (IsStrs.later hs B1) (IsStrs.later hp B1) (hT.later B1) r ok hr
 clear hs hp hr hom hpm
 go_enter Tryz.func90,Tryz.ntmps90
 go_wp2_with fail
 refine K.mono ?_
 rintro e w1 ⟨rfl,b1⟩
 have B2:=B1.trans (b1.mono (by simp))
 clear K b1 B1
 cases ok
 · go_wp2
   go_ret
   exact⟨by simp,B2⟩
 · by_cases hrr:r=root
   · subst hrr
     go_wp2
     go_ret
     exact⟨by simp,B2⟩
   · go_wp2
     go_ret
     exact⟨by simp[hrr],B2⟩
def vOk (ks:List (List UInt8)) (n:Int) (root:List UInt8) (nd:Int) (rt:List UInt8) (ok:Bool):Bool :=
 decide (0≤n∧n≤1000000000000∧root.length=32) && (keysOk ks && (decide (0≤nd∧nd<(ks.length:Int)) && (ok && decide (rt=ks.getD nd.toNat []))))
theorem vOk_chk (ks:List (List UInt8)) (n:Int) (root:List UInt8) (nd:Int) (rt:List UInt8) (ok:Bool) (h:¬ (0≤n∧n≤1000000000000∧root.length=32)):vOk ks n root nd rt ok=false:=by
 rw[vOk,decide_eq_false h];rfl
theorem vOk_keys (ks:List (List UInt8)) (n:Int) (root:List UInt8) (nd:Int) (rt:List UInt8) (ok:Bool) (h:keysOk ks=false):vOk ks n root nd rt ok=false:=by
 rw[vOk,h];simp
theorem vOk_node (ks:List (List UInt8)) (n:Int) (root:List UInt8) (nd:Int) (rt:List UInt8) (ok:Bool) (h:¬ (0≤nd∧nd<(ks.length:Int))):vOk ks n root nd rt ok=false:=by
 rw[vOk,decide_eq_false h];simp
theorem vOk_all (ks:List (List UInt8)) (n:Int) (root:List UInt8) (nd:Int) (rt:List UInt8) (ok:Bool) (h:0≤n∧n≤1000000000000∧root.length=32) (h1:keysOk ks=true) (h2:0≤nd) (h3:nd<(ks.length:Int)):vOk ks n root nd rt ok=(ok && decide (rt=ks.getD nd.toNat [])):=by
 rw[vOk,decide_eq_true h,h1,decide_eq_true (⟨h2,h3⟩:0≤nd∧nd<(ks.length:Int))];simp
set_option maxRecDepth 100000 in
set_option maxHeartbeats 2000000 in
theorem impl_voteOk (a:Option Addr) (cap:Nat) (ks:List (List UInt8)) (n:Int) (root:List UInt8) (nd i:Int) (ao ap:Option Addr) (co cp:Nat) (os ps:List (List UInt8)) (w:World) (hkl:ks.length≤1048576) (hkm:∀ l∈ks,l.length≤1048576) (hl:root.length≤1048576) (hol:os.length≤1048576) (hom:∀ l∈os,l.length≤1048576) (hpl:ps.length≤1048576) (hpm:∀ l∈ps,l.length≤1048576) (hk:IsStrs w a ks) (hs:IsStrs w ao os) (hp:IsStrs w ap ps) (hT:Tab w) (rt:List UInt8) (ok:Bool) (hr:RootIs (chkL n.toNat root) i os ps rt ok) :
 Calls Tryz.prog 66 #[.slice a ks.length cap,.int .i64 n,.string ⟨root.toArray⟩,.agg #[.int .i64 nd,.int .i64 i,.slice ao os.length co,.slice ap ps.length cp]] w fun e w'=>e=.returned (.bool (vOk ks n root nd rt ok))∧Below w.heap.size w w':=by
 have Ba:Below w.heap.size w (w.alloc (.cells #[.int .i64 nd,.int .i64 i,.slice ao os.length co,.slice ap ps.length cp] 74)):=(Below.refl _ _).alloc (Nat.le_refl _) _
 have X0:(w.alloc (.cells #[.int .i64 nd,.int .i64 i,.slice ao os.length co,.slice ap ps.length cp] 74)).heap[w.heap.size]? = some (.cells #[.int .i64 nd,.int .i64 i,.slice ao os.length co,.slice ap ps.length cp] 74 (0,0)):=heap_alloc_new w _
 have HV0:=vOk_chk ks n root nd rt ok
 have HV1:=vOk_keys ks n root nd rt ok
 have HV2:=vOk_node ks n root nd rt ok
 have HV3:=vOk_all ks n root nd rt ok
 obtain⟨out,hout⟩:∃ out,out=vOk ks n root nd rt ok:=⟨_,rfl⟩
 rw[←hout] at HV0 HV1 HV2 HV3 ⊢
 have HHV1:Hid (keysOk ks=false→out=false):=HV1
 have HHV2:Hid (¬ (0≤nd∧nd<(ks.length:Int))→out=false):=HV2
 clear hout HV1 HV2
 by_cases h:0≤n∧n≤1000000000000∧root.length=32
 · obtain ⟨h1, h2, h3⟩ := h
   obtain⟨k,rfl⟩:=Int.eq_ofNat_of_zero_le h1
   have HHV3:Hid (keysOk ks=true→0≤nd→nd<(ks.length:Int)→out=(ok && decide (rt=ks.getD nd.toNat []))):=HV3 ⟨h1,h2,h3⟩
   have K1:=impl_check k root (w.alloc (.cells #[.int .i64 nd,.int .i64 i,.slice ao os.length co,.slice ap ps.length cp] 74)) (by omega) h3 (hT.later Ba)
   have hml:=chkL_len k root h3
   rw[Int.toNat_natCast] at hr
   obtain⟨msg,hmsg⟩:∃ msg,msg=chkL k root:=⟨_,rfl⟩
   rw[←hmsg] at K1 hml hr
   have HK2:Hid (∀ W,Below w.heap.size w W→Calls Tryz.prog 64 #[.slice a ks.length cap] W fun e w'=>e=.returned (.bool (keysOk ks))∧w'=W):=fun W hW=>impl_areKeys a cap ks W hkl hkm (strs_later hk hW)
   have HK3:Hid (∀ x W,Below w.heap.size w W→Calls Tryz.prog 90 #[.string ⟨x.toArray⟩,.string ⟨msg.toArray⟩,.agg #[.int .i64 i,.slice ao os.length co,.slice ap ps.length cp]] W fun e w'=>e=.returned (.bool (ok && decide (rt=x)))∧Below W.heap.size W w'):=fun x W hW=>impl_verify x msg i ao ap co cp os ps W (by omega) hol hom hpl hpm (strs_later hs hW) (strs_later hp hW) (hT.later hW) rt ok hr
   have HKC:Hid (∀ W,Below w.heap.size w W→IsStrs W a ks):=fun W hW=>strs_later hk hW
   clear hk hs hp hr HV0 HV3 hmsg hom hpm hkm hT
   go_enter Tryz.func66,Tryz.ntmps66
   go_wp2_with fail
   refine K1.mono ?_
   rintro e w1 ⟨rfl,b1⟩
   have B1:Below w.heap.size w w1:=Ba.trans (b1.mono (by simp))
   obtain⟨t0,t1,t2,t3,_⟩:=vq_cells ((b1.block w.heap.size (by simp)).trans X0)
   have n1:w.heap.size<w1.heap.size:=lt_of_block ((b1.block w.heap.size (by simp)).trans X0)
   have B1d:Below w.heap.size w w1.drew:=⟨B1.os,B1.tape,B1.output,B1.size,B1.block⟩
   clear K1 b1 X0 Ba
   go_wp2_with fail
   refine (HK2.out w1 B1).mono ?_
   rintro e w1 ⟨rfl,rfl⟩
   cases hkb:keysOk ks with
   | false =>
     have HZ:Hid (out=false):=HHV1.out hkb
     clear hkb
     go_wp2
     go_ret
     exact⟨by rw[HZ.out];rfl,B1⟩
   | true =>
     by_cases hn0:0≤nd
     · by_cases hn1:nd<(ks.length:Int)
       · obtain⟨j,rfl⟩:=Int.eq_ofNat_of_zero_le hn0
         have hj:j<ks.length:=by omega
         obtain⟨b,off,rfl,hc⟩:∃ b off,a=some ⟨b,off,none⟩∧∀ j (h:j<ks.length),w1.cell? ⟨b,off+j,none⟩=some (.string ⟨ks[j].toArray⟩):=by
          rcases HKC.out w1 B1 with h | h
          · rw[h] at hj;simp at hj
          · exact h
         have c1:=hc j hj
         have HZ:Hid (out=(ok && decide (rt=ks[j]))):=by
          have:=HHV3.out hkb hn0 hn1
          rw[Hid,this,Int.toNat_natCast,List.getD_eq_getElem?_getD,List.getElem?_eq_getElem hj];rfl
         obtain⟨x,hx⟩:∃ x,x=ks[j]:=⟨_,rfl⟩
         rw[←hx] at c1 HZ
         clear hc hx hkb HHV3 HKC HHV2 HHV1
         have nb:b<w1.heap.size:=World.block_lt_of_cell? w1 _ c1
         have SX:Hid (w1.cell? ⟨w.heap.size,0,none⟩=some (.int .i64 (j:Int))∧w1.cell? ⟨w.heap.size,1,none⟩=some (.int .i64 i)∧w1.cell? ⟨w.heap.size,2,none⟩=some (.slice ao os.length co)∧w1.cell? ⟨w.heap.size,3,none⟩=some (.slice ap ps.length cp)∧w1.cell? ⟨b,off+j,none⟩=some (.string ⟨x.toArray⟩)):=⟨t0,t1,t2,t3,c1⟩
         go_wp2_with fail
         go_region_held3 (fun w'=>w'.cell? ⟨w.heap.size,0,none⟩=some (.int .i64 (j:Int))∧w'.cell? ⟨w.heap.size,1,none⟩=some (.int .i64 i)∧w'.cell? ⟨w.heap.size,2,none⟩=some (.slice ao os.length co)∧w'.cell? ⟨w.heap.size,3,none⟩=some (.slice ap ps.length cp)∧w'.cell? ⟨b,off+j,none⟩=some (.string ⟨x.toArray⟩))
          (first | exact S2.out | exact SX.out)
          (first
          | (go_at_call 90
             refine (HK3.out x w1.drew B1d).mono ?_
             rintro e w2 ⟨rfl,b2⟩
             have b2':Below w1.heap.size w1 w2:=⟨b2.os,b2.tape,b2.output,b2.size,b2.block⟩
             have B2:=B1.trans (b2'.mono B1.size)
             have S2:Hid (w2.cell? ⟨w.heap.size,0,none⟩=some (.int .i64 (j:Int))∧w2.cell? ⟨w.heap.size,1,none⟩=some (.int .i64 i)∧w2.cell? ⟨w.heap.size,2,none⟩=some (.slice ao os.length co)∧w2.cell? ⟨w.heap.size,3,none⟩=some (.slice ap ps.length cp)∧w2.cell? ⟨b,off+j,none⟩=some (.string ⟨x.toArray⟩)):=⟨(b2'.cell (p:=⟨w.heap.size,0,none⟩) n1).trans SX.out.1,(b2'.cell (p:=⟨w.heap.size,1,none⟩) n1).trans SX.out.2.1,(b2'.cell (p:=⟨w.heap.size,2,none⟩) n1).trans SX.out.2.2.1,(b2'.cell (p:=⟨w.heap.size,3,none⟩) n1).trans SX.out.2.2.2.1,(b2'.cell (p:=⟨b,off+j,none⟩) nb).trans SX.out.2.2.2.2⟩
             clear b2 b2'))
         all_goals
          go_wp2
          go_ret
          exact⟨by rw[HZ.out];rfl,B2⟩
       · have HZ:Hid (out=false):=HHV2.out (fun hh=>hn1 hh.2)
         clear hkb
         go_wp2
         go_ret
         exact⟨by rw[HZ.out];rfl,B1⟩
     · have HZ:Hid (out=false):=HHV2.out (fun hh=>hn0 hh.1)
       have hn0':nd<0:=by omega
       clear hkb
       go_wp2
       go_ret
       exact⟨by rw[HZ.out];rfl,B1⟩
 · have HZ:Hid (out=false):=HV0 h
   have K1:=impl_check_no n root (w.alloc (.cells #[.int .i64 nd,.int .i64 i,.slice ao os.length co,.slice ap ps.length cp] 74)) hl h
   clear h HV0 HV3 hk hs hp hr hom hpm hkm
   go_enter Tryz.func66,Tryz.ntmps66
   go_wp2_with fail
   refine K1.mono ?_
   rintro e w1 ⟨rfl,rfl⟩
   go_wp2
   go_ret
   exact⟨by rw[HZ.out];rfl,Ba⟩
end Go.Proofs.YtllmclmcncolcaaGreatDoor
