/-
 Texts that are laid as one: ITorn, ICrash.
-/
import Derived.Test.YtlllkdioojjaeaaMathCs
import Derived.Test.YtlllkdioojjaeaaIDiskOk
import Derived.Deep.RegionHeld3
import Derived.BigQuiet
import Derived.Test.YtlllkdioojjaeaaNewPs
import Derived.Test.YtlllkdioojjaeaaSCrash
namespace Go.Proofs.Ytlllkdioojjaeaa
open Go.RowKit
set_option linter.unusedVariables false
theorem tornFA (on od : List UInt8) : ∀ w, Sem.run Try.prog (method 272 111 (.agg #[.string ⟨on.toArray⟩, .string ⟨od.toArray⟩]) "loop.example/g00226/impl.tornAt") w = .ok (136, .agg #[.string ⟨on.toArray⟩, .string ⟨od.toArray⟩]) w := fun w => by kernel_rfl
theorem tornFR (on ot : List UInt8) : ∀ w, Sem.run Try.prog (method 272 113 (.agg #[.string ⟨on.toArray⟩, .string ⟨ot.toArray⟩]) "loop.example/g00226/impl.tornAt") w = .ok (138, .agg #[.string ⟨on.toArray⟩, .string ⟨ot.toArray⟩]) w := fun w => by kernel_rfl
theorem tornFM (on : List UInt8) : ∀ w, Sem.run Try.prog (method 272 115 (.agg #[.string ⟨on.toArray⟩]) "loop.example/g00226/impl.tornAt") w = .ok (140, .agg #[.string ⟨on.toArray⟩]) w := fun w => by kernel_rfl
theorem two_cellsT {w:World} {b:Nat} {u v:Value} {t:TypeId} (h:w.heap[b]? = some (.cells #[u,v] t (0,0))):w.cell? ⟨b,0,none⟩=some u∧w.cell? ⟨b,1,none⟩=some v:=by
 refine⟨?_,?_⟩ <;> simp only[World.cell?,h] <;> rfl
set_option maxRecDepth 100000 in
set_option maxHeartbeats 1000000 in
theorem impl_tornA (n d:List UInt8) (tk:Nat) (w:World) (hd:d.length≤1048576) :
 Calls Try.prog 136 #[.agg #[.string ⟨n.toArray⟩,.string ⟨d.toArray⟩],.int .i64 (tk:Int)] w fun e w'=>e=.returned (.iface 111 (.agg #[.string ⟨n.toArray⟩,.string ⟨(d.take tk).toArray⟩]))∧Below w.heap.size w w':=by
 have A0:=heap_alloc_new w (.cells #[.string ⟨n.toArray⟩,.string ⟨d.toArray⟩] 111)
 have B0:Below w.heap.size w (w.alloc (.cells #[.string ⟨n.toArray⟩,.string ⟨d.toArray⟩] 111)):=(Below.refl _ _).alloc (Nat.le_refl _) _
 obtain⟨p0,p1⟩:=two_cellsT A0
 by_cases h:tk≤d.length
 · have hmn:min (tk:Int) (d.length:Int)=(tk:Int):=by omega
   have hle:(tk:Int)≤(d.length:Int):=by omega
   have h0:(0:Int)≤(tk:Int):=by omega
   have hex:=ext_to d tk h
   go_enter Try.func136,Try.ntmps136
   go_wp2
   first | (go_quiet (fail);go_wp2) | skip
   go_ret
   exact⟨rfl,by first | exact B0 | exact below_drew1 B0 | exact⟨B0.os,B0.tape,B0.output,B0.size,B0.block⟩⟩
 · have hmn:min (tk:Int) (d.length:Int)=(d.length:Int):=by omega
   have hle:¬ (tk:Int)≤(d.length:Int):=by omega
   have hex:=ext_to d d.length (Nat.le_refl _)
   rw[List.take_length] at hex
   have htk:d.take tk=d:=List.take_of_length_le (by omega)
   rw[htk]
   have h0:(0:Int)≤(d.length:Int):=by omega
   clear htk
   go_enter Try.func136,Try.ntmps136
   go_wp2
   first | (go_quiet (fail);go_wp2) | skip
   go_ret
   exact⟨rfl,by first | exact B0 | exact below_drew1 B0 | exact⟨B0.os,B0.tape,B0.output,B0.size,B0.block⟩⟩
set_option maxRecDepth 100000 in
theorem impl_tornR (n t:List UInt8) (x:Int) (w:World) :
 Calls Try.prog 138 #[.agg #[.string ⟨n.toArray⟩,.string ⟨t.toArray⟩],.int .i64 x] w fun e w'=>e=.returned (.iface 113 (.agg #[.string ⟨n.toArray⟩,.string ⟨t.toArray⟩]))∧Below w.heap.size w w':=by
 have A0:=heap_alloc_new w (.cells #[.string ⟨n.toArray⟩,.string ⟨t.toArray⟩] 113)
 have B0:Below w.heap.size w (w.alloc (.cells #[.string ⟨n.toArray⟩,.string ⟨t.toArray⟩] 113)):=(Below.refl _ _).alloc (Nat.le_refl _) _
 obtain⟨p0,p1⟩:=two_cellsT A0
 go_enter Try.func138,Try.ntmps138
 go_wp2
 go_ret
 exact⟨rfl,B0⟩
set_option maxRecDepth 100000 in
theorem impl_tornM (n:List UInt8) (x:Int) (w:World) :
 Calls Try.prog 140 #[.agg #[.string ⟨n.toArray⟩],.int .i64 x] w fun e w'=>e=.returned (.iface 115 (.agg #[.string ⟨n.toArray⟩]))∧Below w.heap.size w w':=by
 have A0:=heap_alloc_new w (.cells #[.string ⟨n.toArray⟩] 115)
 have B0:Below w.heap.size w (w.alloc (.cells #[.string ⟨n.toArray⟩] 115)):=(Below.refl _ _).alloc (Nat.le_refl _) _
 have p0:(w.alloc (.cells #[.string ⟨n.toArray⟩] 115)).cell? ⟨w.heap.size,0,none⟩=some (.string ⟨n.toArray⟩):=by simp only[World.cell?,A0];rfl
 go_enter Try.func140,Try.ntmps140
 go_wp2
 go_ret
 exact⟨rfl,B0⟩
set_option maxRecDepth 100000 in
set_option maxHeartbeats 2000000 in
theorem impl_arePlaces (ka : Option Addr) (kc n : Nat) (ks : List Int) (w : World) (hk : ks.length ≤ 1048576) (hn : n ≤ 1048576) (hs : IsInts w ka ks) :
 Calls Try.prog 63 #[.slice ka ks.length kc,.int .i64 (n:Int)] w fun e w'=>e=.returned (.bool (placesOk n ks))∧w'=w:=by
 obtain⟨ln,hln⟩:∃ x,x=ks.length:=⟨_,rfl⟩
 have HLN:Hid (ln=ks.length):=hln
 obtain⟨rb,hrb⟩:∃ x,x=placesOk n ks:=⟨_,rfl⟩
 have HRB:Hid (rb=placesOk n ks):=hrb
 have HS:Hid (IsInts w ka ks):=hs
 rw[←hrb,←hln]
 have hlk:ln≤1048576:=by omega
 clear hrb hln hk hs
 have q0:(0:Int)≤(ln:Int):=by omega
 go_enter Try.func63,Try.ntmps63
 go_wp2
 go_loopw [5,6,9] (fun _ _ i wr=>∃ j:Nat,j≤ln∧i=.int .i64 (j:Int)∧Hid (∀ i,i<j→placeOk n ks i=true)∧wr=w) (fun _ _ i _=>ln - (intOf i).toNat)
 case atStart=>exact⟨0,by omega,rfl,fun i h=>by omega,rfl⟩
 case round =>
  obtain⟨j,hj,rfl,HP,rfl⟩:=hrel
  by_cases hlt:j<ln
  · have hjk:j<ks.length:=by have:=HLN.out;omega
    obtain⟨b,off,rfl,hcs⟩:=HS.out.at hjk
    have c1':=hcs j hjk
    have hdp:(j=0∨∃ i1,i1+1=j∧wr.cell? ⟨b,off+i1,none⟩=some (.int .i64 (plAt ks i1))):=by
     by_cases hz:j=0
     · exact .inl hz
     · exact .inr ⟨j - 1,by omega,hcs (j - 1) (by omega)⟩
    have HO:Hid (placeOk n ks j=(decide (0≤plAt ks j∧plAt ks j≤(n:Int) - 1) && (decide (j=0) || decide (plAt ks (j - 1)<plAt ks j)))):=rfl
    have HBD:Hid (placeOk n ks j=false→rb=false):=fun h=>by rw[HRB.out];exact places_bad hjk h
    obtain⟨kj,hkj⟩:∃ x,x=plAt ks j:=⟨_,rfl⟩
    rw[←hkj] at c1' HO
    have hj0:(0:Int)≤(j:Int):=by omega
    have hj1:(j:Int)<(ln:Int):=by omega
    have HNX:Hid (placeOk n ks j=true→∀ k,k<j+1→placeOk n ks k=true):=fun h k hk=>by
     by_cases e:k=j
     · rw[e];exact h
     · exact HP.out k (by omega)
    clear hcs hkj HP hjk
    by_cases h1:kj<0
    · have h1b:decide (kj<0)=true:=decide_eq_true h1
      have HE:Hid (rb=false):=HBD.out (by rw[HO.out,decide_eq_false (by omega)];rfl)
      clear HO HBD
      go_wp2
      go_ret
      obtain rfl:=HE.out
      exact⟨rfl,rfl⟩
    · have h1b:decide (kj<0)=false:=decide_eq_false h1
      by_cases h2:(n:Int)≤kj
      · have h2b:decide ((n:Int)≤kj)=true:=decide_eq_true h2
        have HE:Hid (rb=false):=HBD.out (by rw[HO.out,decide_eq_false (by omega)];rfl)
        clear HO HBD
        go_wp2
        go_ret
        obtain rfl:=HE.out
        exact⟨rfl,rfl⟩
      · have h2b:decide ((n:Int)≤kj)=false:=decide_eq_false h2
        replace HO:Hid (placeOk n ks j=(decide (j=0) || decide (plAt ks (j - 1)<kj))):=by rw[Hid,HO.out,decide_eq_true (by omega),Bool.true_and]
        rcases hdp with rfl | ⟨i1,rfl,d1⟩
        · have HTT:Hid (placeOk n ks 0=true):=by rw[Hid,HO.out];rfl
          simp only[Nat.add_zero] at c1'
          have hzb:decide ((0:Int)<((0:Nat):Int))=false:=decide_eq_false (by omega)
          clear HO HBD
          go_wp2
          go_roundw
          case rel=>exact⟨0+1,by omega,by go_num,HNX.out HTT.out,trivial⟩
          case measure=>simp[intOf];omega
        · rw[Nat.add_sub_cancel] at HO
          obtain⟨kp,hkp⟩:∃ x,x=plAt ks i1:=⟨_,rfl⟩
          rw[←hkp] at d1 HO
          have hzb:decide ((0:Int)<((i1+1:Nat):Int))=true:=decide_eq_true (by omega)
          have hzp:(0:Int)<((i1+1:Nat):Int):=by omega
          have hzi:IntKind.i64.wrap (((i1+1:Nat):Int) - 1)=(i1:Int):=by rw[i64_wrap_small _ (by omega) (by omega)];omega
          have hi2:((i1+1:Nat):Int) - 1=(i1:Int):=by omega
          have hi0:(0:Int)≤(i1:Int):=by omega
          have hi3:(i1:Int)<(ln:Int):=by omega
          clear hkp
          by_cases hle:kj≤kp
          · have hleb:decide (kj≤kp)=true:=decide_eq_true hle
            have HE:Hid (rb=false):=HBD.out (by rw[HO.out,decide_eq_false (show ¬ kp<kj by omega)];simp)
            clear HO HBD
            go_wp2
            go_ret
            obtain rfl:=HE.out
            exact⟨rfl,rfl⟩
          · have hleb:decide (kj≤kp)=false:=decide_eq_false hle
            have HTT:Hid (placeOk n ks (i1+1)=true):=by rw[Hid,HO.out,decide_eq_true (show kp<kj by omega)];simp
            clear HO HBD
            go_wp2
            go_roundw
            case rel=>exact⟨i1+1+1,by omega,by go_num,HNX.out HTT.out,trivial⟩
            case measure=>simp[intOf];omega
  · have hj1:¬ (j:Int)<(ln:Int):=by omega
    have HE:Hid (rb=true):=by rw[Hid,HRB.out];exact places_end (fun i hi=>HP.out i (by have:=HLN.out;omega))
    go_wp2
    go_ret
    obtain rfl:=HE.out
    exact⟨rfl,rfl⟩
def JcPost (W w':World) (e:Ending) (r:List PairL) (b:Bool):Prop :=
 ∃ (x1 x2:Option Addr) (k1 k2:Nat),e=.returned (.tuple #[.agg #[.slice x1 r.length k1,.slice x2 r.length k2,.slice none 0 0],.bool b])∧w'.ownsRow W.heap.size 84 2 (.slice x1 r.length k1) r.length (pcells r)∧w'.ownsRow W.heap.size 84 2 (.slice x2 r.length k2) r.length (pcells r)∧Apart3 (.slice x1 r.length k1) (.slice x2 r.length k2) (.slice none 0 0)∧Below W.heap.size W w'
theorem jcpost_none {w W:World} {rl:List PairL} {rb:Bool} (hb:rb=false) (hl:rl=[]) (hW:Below w.heap.size w W):JcPost w (((W.setCell ⟨w.heap.size+1,0,none⟩ (.slice none 0 0)).setCell ⟨w.heap.size+1,1,none⟩ (.slice none 0 0)).setCell ⟨w.heap.size+1,2,none⟩ (.slice none 0 0)) (.returned (.tuple #[.agg #[.slice none 0 0,.slice none 0 0,.slice none 0 0],.bool false])) rl rb:=by
 rw[hb,hl]
 exact⟨none,none,0,0,rfl,World.ownsRow_nil _ _ _ _,World.ownsRow_nil _ _ _ _,fun q=>⟨fun h=>by simp[Value.ownBlock] at h,fun h=>by simp[Value.ownBlock] at h⟩,((hW.setCell (by simp only;omega) _).setCell (by simp only;omega) _).setCell (by simp only;omega) _⟩
theorem jcpost_of {w W:World} {s m fl k1 k2:Nat} {r rl:List PairL} {rb:Bool} {x1 x2:Option Addr} (hs:w.heap.size+1<s) (hsm:s≤m) (hb:Below w.heap.size w W) (o1:W.ownsRow s 84 2 (.slice x1 fl k1) fl (pcells r)) (o2:W.ownsRow m 84 2 (.slice x2 fl k2) fl (pcells r)) (hlt:∀ q,(Value.slice x1 fl k1).ownBlock=some q→q<m) (e1:fl=r.length) (hrb:rb=true) (hrl:rl=r) :
 JcPost w (((W.setCell ⟨w.heap.size+1,0,none⟩ (.slice x1 fl k1)).setCell ⟨w.heap.size+1,1,none⟩ (.slice x2 fl k2)).setCell ⟨w.heap.size+1,2,none⟩ (.slice none 0 0)) (.returned (.tuple #[.agg #[.slice x1 fl k1,.slice x2 fl k2,.slice none 0 0],.bool true])) rl rb:=by
 subst e1 hrb hrl
 have hm:w.heap.size+1<m:=by omega
 refine⟨x1,x2,k1,k2,rfl,(own_set (own_set (own_set o1 _ hs _) _ hs _) _ hs _).mono (by omega),(own_set (own_set (own_set o2 _ hm _) _ hm _) _ hm _).mono (by omega),fun q=>⟨fun h=>⟨fun h2=>?_,fun h2=>by simp[Value.ownBlock] at h2⟩,fun _ h2=>by simp[Value.ownBlock] at h2⟩,((hb.setCell (by simp only;omega) _).setCell (by simp only;omega) _).setCell (by simp only;omega) _⟩
 have g1:=hlt q h
 have g2:=(o2.lt q h2).1
 omega
set_option maxRecDepth 100000 in
set_option maxHeartbeats 8000000 in
theorem impl_crash (a1 a2 a3 ka : Option Addr) (c1 c2 c3 kc : Nat) (live safe : List PairL) (ops : List DOpL) (ks : List Int) (tn : Int) (w : World) (hl1 : live.length ≤ 1048576) (hm1 : ∀ p ∈ live, p.1.length ≤ 1048576 ∧ p.2.length ≤ 1048576) (hl2 : safe.length ≤ 1048576) (hm2 : ∀ p ∈ safe, p.1.length ≤ 1048576 ∧ p.2.length ≤ 1048576) (hl3 : ops.length ≤ 1048576) (hm3 : ∀ p ∈ ops, p.n.length ≤ 1048576 ∧ p.t.length ≤ 1048576 ∧ p.d.length ≤ 1048576) (hds : sizeD ops ≤ 1048576) (hk : ks.length ≤ 1048576)
 (hs1:IsPairs w a1 live) (hs2:IsPairs w a2 safe) (hs3:IsDOps w a3 ops) (hs4:IsInts w ka ks) :
 Calls Try.prog 27 #[.agg #[.slice a1 live.length c1,.slice a2 safe.length c2,.slice a3 ops.length c3],.slice ka ks.length kc,.int .i64 tn] w fun e w'=>JcPost w w' e (crashL live safe ops ks tn) (crashB live safe ops ks tn):=by
 obtain⟨wa,hwa⟩:∃ wa,wa=((w.alloc (.cells #[.slice a1 live.length c1,.slice a2 safe.length c2,.slice a3 ops.length c3] 31)).alloc (.cells #[.slice none 0 0,.slice none 0 0,.slice none 0 0] 31)):=⟨_,rfl⟩
 have B0:Below w.heap.size w wa:=by rw[hwa];exact ((Below.refl _ _).alloc (Nat.le_refl _) _).alloc (by simp) _
 have H0:Hid (wa.heap[w.heap.size]? = some (.cells #[.slice a1 live.length c1,.slice a2 safe.length c2,.slice a3 ops.length c3] 31 (0,0))):=by rw[hwa,Hid,Below.heap_alloc _ _ _ (by simp)];exact heap_alloc_new w _
 have R0:Hid (wa.heap[w.heap.size+1]? = some (.cells #[.slice none 0 0,.slice none 0 0,.slice none 0 0] 31 (0,0))):=by
  rw[hwa,Hid]
  have:=heap_alloc_new (w.alloc (.cells #[.slice a1 live.length c1,.slice a2 safe.length c2,.slice a3 ops.length c3] 31)) (.cells #[.slice none 0 0,.slice none 0 0,.slice none 0 0] 31)
  simpa using this
 obtain⟨p0,p1,p2,_⟩:=three_cells H0.out
 have KD:=impl_diskOk a1 a2 a3 c1 c2 c3 live safe ops wa hl1 hm1 hl2 hm2 hl3 hm3 (hs1.later B0) (hs2.later B0) (hs3.later B0)
 have HS:Hid (∀ W,Below w.heap.size w W→IsPairs W a2 safe∧IsDOps W a3 ops∧IsInts W ka ks):=fun W h=>⟨hs2.later h,hs3.later h,hs4.later h⟩
 have HRB:Hid (crashB live safe ops ks tn=(diskOk live safe ops && (decide (0≤tn) && (placesOk ops.length ks && filesOk (keptTo ops ks tn safe ks.length))))):=rfl
 have HRL:Hid (crashL live safe ops ks tn=if crashB live safe ops ks tn=true then keptTo ops ks tn safe ks.length else []):=rfl
 have HKP:Hid (∀ W,IsInts W ka ks→_):=fun W h=>impl_arePlaces ka kc ops.length ks W hk hl3 h
 have HA:Hid (sizeD ops≤1048576):=hds
 obtain⟨rb,hrb⟩:∃ x,x=crashB live safe ops ks tn:=⟨_,rfl⟩
 obtain⟨rl,hrl⟩:∃ x,x=crashL live safe ops ks tn:=⟨_,rfl⟩
 obtain⟨dk,hdk⟩:∃ x,x=diskOk live safe ops:=⟨_,rfl⟩
 obtain⟨pk,hpk⟩:∃ x,x=placesOk ops.length ks:=⟨_,rfl⟩
 obtain⟨ln,hln⟩:∃ x,x=ks.length:=⟨_,rfl⟩
 have HLN:Hid (ln=ks.length):=hln
 rw[←hrb] at HRB HRL
 rw[←hrl] at HRL
 rw[←hrb,←hrl,←hln]
 rw[←hdk] at KD HRB
 rw[←hpk] at HRB HKP
 rw[←hln] at HKP
 have HDK:Hid (dk=diskOk live safe ops):=hdk
 have HPK:Hid (pk=placesOk ops.length ks):=hpk
 have HN:Hid (rb=false→rl=[]):=fun h=>by rw[HRL.out,h];simp
 have hlk:ln≤1048576:=by rw[hln];exact hk
 clear hrb hrl hdk hpk hln hs1 hs2 hs3 hs4 hm1 hm2 hm3 hl1 hl2 hl3 hk hds
 rw[hwa] at KD p0 p1 p2
 go_enter Try.func27,Try.ntmps27
 go_wp2_with fail
 refine KD.mono ?_
 rintro e w1 ⟨rfl,b1⟩
 rw[←hwa] at b1
 have B1:Below w.heap.size w w1:=B0.trans (b1.mono B0.size)
 have H1:Hid (w1.heap[w.heap.size]? = some (.cells #[.slice a1 live.length c1,.slice a2 safe.length c2,.slice a3 ops.length c3] 31 (0,0))):=(b1.block _ (lt_of_block H0.out)).trans H0.out
 have R1:Hid (w1.heap[w.heap.size+1]? = some (.cells #[.slice none 0 0,.slice none 0 0,.slice none 0 0] 31 (0,0))):=(b1.block _ (lt_of_block R0.out)).trans R0.out
 clear p0 p1 p2 KD b1 H0 R0 B0 hwa
 cases dk with
 | false =>
   have HE:Hid (rb=false):=by rw[Hid,HRB.out];rfl
   obtain⟨r0,r1,r2,rf⟩:=three_cells R1.out
   have rf0:=rf 0
   have rf1:=rf 1
   have rf2:=rf 2
   have HY:Hid (_=_):=dk_set (j:=2) (z:=.slice none 0 0) (dk_set (j:=1) (z:=.slice none 0 0) (dk_set (j:=0) (z:=.slice none 0 0) R1.out))
   have HP:Hid (JcPost w _ _ rl rb):=jcpost_none HE.out (HN.out HE.out) B1
   clear rf HS HA HRL HKP
   go_wp2
   refine bodyPost_ret (v:=.tuple #[.agg #[.slice none 0 0,.slice none 0 0,.slice none 0 0],.bool false]) (results_disk rfl _ _ (w.heap.size+1) 31 _ (0,0) _ _ rfl HY.out Try.underlying31 rfl (by kernel_rfl) rfl) rfl ?_
   exact HP.out
 | true =>
   obtain⟨p0,p1,p2,_⟩:=three_cells H1.out
   have KP:=HKP.out w1 (HS.out w1 B1).2.2
   go_wp2_with fail
   refine KP.mono ?_
   rintro e w1 ⟨rfl,rfl⟩
   clear KP p0 p1 p2 HKP
   cases pk with
   | false =>
     have HE:Hid (rb=false):=by rw[Hid,HRB.out];cases decide (0≤tn) <;> rfl
     obtain⟨r0,r1,r2,rf⟩:=three_cells R1.out
     have rf0:=rf 0
     have rf1:=rf 1
     have rf2:=rf 2
     have HY:Hid (_=_):=dk_set (j:=2) (z:=.slice none 0 0) (dk_set (j:=1) (z:=.slice none 0 0) (dk_set (j:=0) (z:=.slice none 0 0) R1.out))
     have HP:Hid (JcPost w _ _ rl rb):=jcpost_none HE.out (HN.out HE.out) B1
     clear rf HS HA HRL
     go_wp2
     refine bodyPost_ret (v:=.tuple #[.agg #[.slice none 0 0,.slice none 0 0,.slice none 0 0],.bool false]) (results_disk rfl _ _ (w.heap.size+1) 31 _ (0,0) _ _ rfl HY.out Try.underlying31 rfl (by kernel_rfl) rfl) rfl ?_
     exact HP.out
   | true =>
     by_cases ht:0≤tn
     · obtain ⟨tk, rfl⟩ := Int.eq_ofNat_of_zero_le ht
       have htl:decide ((tk:Int)<0)=false:=decide_eq_false (by omega)
       have htn:¬ (tk:Int)<0:=by omega
       have HB3:Hid (rb=filesOk (keptTo ops ks (tk:Int) safe ks.length)):=by rw[Hid,HRB.out,decide_eq_true ht];rfl
       have HINV:Hid (∀ j,j≤ks.length→_):=kept_inv (tn:=(tk:Int)) HDK.out.symm HPK.out.symm
       have HFS:Hid (filesOk safe=true):=by have h:=HDK.out.symm;simp only[diskOk,Bool.and_eq_true,decide_eq_true_eq] at h;exact h.2.1
       have HB2:Hid (Rise safe∧(∀ p∈safe,p.1.length≤100∧p.2.length≤200000)∧safe.length≤60):=⟨(rise_files HFS.out).1,files_small HFS.out,(rise_files HFS.out).2.2.1⟩
       have KB:=impl_byName a2 c2 safe w1 (by have:=HB2.out.2.2;omega) (fun p hp=>by have:=HB2.out.2.1 p hp;exact⟨by omega,by omega⟩) HB2.out.1 (HS.out w1 B1).1
       obtain⟨p0,p1,p2,_⟩:=three_cells H1.out
       have q0:(0:Int)≤(ln:Int):=by omega
       have HL1:Hid (w.heap.size+1<w1.heap.size):=lt_of_block R1.out
       clear HRB
       go_wp2_with fail
       refine KB.mono ?_
       rintro e w2 ⟨mb,rfl,b2,D0,S0,hF0⟩
       have HX0:Hid (Below w1.heap.size w1 w2):=b2
       have HF0:Hid (∃ D S,FMap w2 w1.heap.size mb 60 safe D S):=⟨D0,S0,hF0.mono HB2.out.2.2⟩
       clear KB b2 hF0 p0 p1 p2 HB2 HFS
       go_wp2
       go_loopw [9,10,11,12,34] (fun _ _ _ _ i wr=>∃ j:Nat,j≤ln∧i=.int .i64 (j:Int)∧Hid (∃ D S,FMap wr w1.heap.size mb (60+j) (keptTo ops ks (tk:Int) safe j) D S)∧Hid (Below w1.heap.size w1 wr)) (fun _ _ _ _ i _=>ln - (intOf i).toNat)
       case atStart=>exact⟨0,by omega,rfl,HF0.out,HX0.out⟩
       case round =>
        obtain⟨j,hj,rfl,HF,HX⟩:=hrel
        clear HF0 HX0
        have BW:Hid (Below w.heap.size w wr):=B1.trans (HX.out.mono B1.size)
        have HW:Hid (wr.heap[w.heap.size]? = some (.cells #[.slice a1 live.length c1,.slice a2 safe.length c2,.slice a3 ops.length c3] 31 (0,0))):=(HX.out.block _ (lt_of_block H1.out)).trans H1.out
        by_cases hlt:j<ln
        · have hjk : j < ks.length := by have := HLN.out; omega
          obtain⟨i1,i2,i3,i4,nx,i5,i6,i7,i8,i9⟩:=HINV.out j (by omega)
          have hpl:=places_at HPK.out.symm j hjk
          simp only[placeOk,Bool.and_eq_true,decide_eq_true_eq] at hpl
          obtain⟨⟨q1,q2⟩,_⟩:=hpl
          obtain⟨pp,hpp⟩:∃ p:Nat,plAt ks j=(p:Int):=⟨(plAt ks j).toNat,by omega⟩
          have hpn:pp<ops.length:=by omega
          have hop:opAt ops (pp:Int)=ops[pp]:=by simp[opAt,hpn]
          obtain⟨kb,ko,rfl,hcs⟩:=(HS.out wr BW.out).2.2.at hjk
          have k0:=hcs j hjk
          rw[hpp] at k0
          obtain⟨ob,oo,rfl,hco⟩:∃ b off,a3=some ⟨b,off,none⟩∧_:=by
           rcases (HS.out wr BW.out).2.1 with h | h
           · rw[h] at hpn;cases hpn
           · exact h
          obtain⟨o0,o1,o2,o3⟩:=hco pp hpn
          have hds1:=dsum_le ops nx
          have hdsz:=HA.out
          have hdp:ops[pp].d.length≤1048576:=by have h1:=sizeD_le ops pp hpn;unfold opN at h1;omega
          have hfo:=run_forms ops safe live (by have h:=HDK.out.symm;simp only[diskOk,Bool.and_eq_true,decide_eq_true_eq] at h;exact h.2.2.2) ops[pp] (List.getElem_mem hpn)
          have hfs:=form_small2 hfo
          obtain⟨op,hoq⟩:∃ o,o=ops[pp]:=⟨_,rfl⟩
          rw[←hoq] at o0 o1 o2 o3 hop hdp hfs hfo
          have HKO:Hid (keptOp ops ks (tk:Int) j=if j+1=ks.length then tornO (tk:Int) op else op):=by rw[Hid,keptOp,hpp,hop]
          have HNX:Hid (keptTo ops ks (tk:Int) safe (j+1)=(doF (keptTo ops ks (tk:Int) safe j) (keptOp ops ks (tk:Int) j)).1):=rfl
          obtain⟨fs,hfs2⟩:∃ x,x=keptTo ops ks (tk:Int) safe j:=⟨_,rfl⟩
          rw[←hfs2] at HF HNX i1 i3 i9
          obtain⟨D4,S4,hF4⟩:=HF.out
          have HFM:Hid (FMap wr w1.heap.size mb (60+j) fs D4 S4):=hF4
          have HRI:Hid (Rise fs):=i1
          have HDA:Hid (∀ n,(datF fs n).length≤1300000):=fun n=>datF_le (fun p hp=>by have:=(i9 p hp).2;omega) n
          have HJ:Hid (j≤200):=i4
          obtain⟨ok,on,ot,od⟩:=op
          simp only at o0 o1 o2 o3 hdp hfs
          have hkk:nameOk on=true∧(ok=1∨ok=2∨ok=3):=by
           have h9:=hfo
           simp only[formOk,Bool.and_eq_true,decide_eq_true_eq] at h9
           exact⟨h9.2.1,by omega⟩
          have KF:=impl_deedOf ok on ot od wr (by omega) (by omega) (by omega)
          rw[hfo] at KF
          have HDV:Hid (deedV ⟨ok,on,ot,od⟩=if ok=1 then .iface 111 (.agg #[.string ⟨on.toArray⟩,.string ⟨od.toArray⟩]) else if ok=2 then .iface 113 (.agg #[.string ⟨on.toArray⟩,.string ⟨ot.toArray⟩]) else if ok=3 then .iface 115 (.agg #[.string ⟨on.toArray⟩]) else .nilIface):=by rw[Hid,deedV,if_pos hkk.1]
          have HSM:Hid (on.length≤100∧ot.length≤100∧od.length≤1048576):=⟨hfs.1,hfs.2,hdp⟩
          have hj0:(0:Int)≤(j:Int):=by omega
          have hj1:(j:Int)<(ln:Int):=by omega
          have hp0:(0:Int)≤(pp:Int):=by omega
          have hp1:(pp:Int)<(ops.length:Int):=by omega
          have hwl:IntKind.i64.wrap ((ln:Int) - 1)=(ln:Int) - 1:=by exact i64_wrap_small _ (by omega) (by omega)
          obtain⟨p0,p1,p2,_⟩:=three_cells HW.out
          obtain⟨_,hkk⟩:=hkk
          clear hcs hco hoq hop hfo i1 i2 i3 i4 i5 i6 i7 i8 i9 hds1 hdsz hfs2 q1 q2 hpp HF hF4 hdp hfs HA HINV
          by_cases hl:j+1=ln
          · have hlb : ((j : Int) == (ln : Int) - 1) = true := by rw [beq_iff_eq]; omega
            have HLK:Hid (j+1=ks.length):=by rw[Hid,←HLN.out];exact hl
            clear hl
            rcases hkk with rfl | rfl | rfl
            · have HEQ:Hid (keptOp ops ks (tk:Int) j=⟨1,on,ot,(od.take tk)⟩):=by
               rw[Hid,HKO.out,if_pos HLK.out,tornO]
               split
               · rfl
               · rename_i hc
                 have:od.take tk=od:=List.take_of_length_le (by simp at hc;omega)
                 rw[this]
              have eV:deedV ⟨1,on,ot,od⟩=.iface 111 (.agg #[.string ⟨on.toArray⟩,.string ⟨od.toArray⟩]):=by rw[HDV.out];simp
              have eD:=do_app fs on ot (od.take tk)
              obtain⟨gs,hgs⟩:∃ gs,gs=(doF fs ⟨1,on,ot,(od.take tk)⟩).1:=⟨_,rfl⟩
              have HGS:Hid (gs=keptTo ops ks (tk:Int) safe (j+1)):=by rw[Hid,HNX.out,HEQ.out,hgs]
              have KD9:=fun W (hF:FMap W w1.heap.size mb (60+j) fs D4 S4) (hb:w1.heap.size≤W.heap.size)=>impl_appendOn on (od.take tk) w1.heap.size mb (60+j) fs D4 S4 W (by have:=HSM.out;omega) (by have h1:=HDA.out on;have:=HSM.out;have h2:(od.take tk).length≤od.length:=(by rw[List.length_take];omega);omega) (by have:=HJ.out;omega) hb hF
              rw[eD] at hgs
              simp only at hgs
              rw[←hgs] at KD9
              have HKD:Hid (∀ W,FMap W w1.heap.size mb (60+j) fs D4 S4→w1.heap.size≤W.heap.size→_):=fun W hF hb=>KD9 W hF hb
              have fA:=findsA on (od.take tk)
              have fT:=tornFA on od
              clear KD9 eD hgs HDV HRI HDA HKO HEQ HNX
              go_wp2_with fail
              refine KF.mono ?_
              rintro e w3 ⟨rfl,b3⟩
              rw[eV]
              have B3:Hid (Below w1.heap.size w1 w3):=HX.out.trans (b3.mono HX.out.size)
              have F3:Hid (FMap w3 w1.heap.size mb (60+j) fs D4 S4):=HFM.out.below b3
              clear KF b3 eV HFM o0 o1 o2 o3 k0 p0 p1 p2
              have KT:=impl_tornA on od tk w3 HSM.out.2.2
              go_wp2_with fail
              refine KT.mono ?_
              rintro e w4 ⟨rfl,b4⟩
              have B4:Hid (Below w1.heap.size w1 w4):=B3.out.trans (b4.mono B3.out.size)
              have F4:Hid (FMap w4 w1.heap.size mb (60+j) fs D4 S4):=F3.out.below b4
              clear KT b4 F3 fT
              have KD:=HKD.out w4 F4.out B4.out.size
              clear HKD
              go_wp2_with fail
              refine KD.mono ?_
              rintro e w5 ⟨rfl,b5,D5,S5,hF5⟩
              have B5:Hid (Below w1.heap.size w1 w5):=B4.out.trans b5
              have HNN:Hid (∃ D S,FMap w5 w1.heap.size mb (60+(j+1)) gs D S):=⟨D5,S5,hF5⟩
              clear KD b5 hF5
              go_wp2
              go_roundw
              case rel=>exact⟨j+1,by omega,by go_num,by rw[←HGS.out];exact HNN.out,B5.out⟩
              case measure=>simp[intOf];omega
            · have HEQ:Hid (keptOp ops ks (tk:Int) j=⟨2,on,ot,od⟩):=by
               rw[Hid,HKO.out,if_pos HLK.out,tornO,if_neg (fun h=>absurd h.1 (by simp))]
              have eV:deedV ⟨2,on,ot,od⟩=.iface 113 (.agg #[.string ⟨on.toArray⟩,.string ⟨ot.toArray⟩]):=by rw[HDV.out];simp
              have eD:=do_ren HRI.out on ot od
              obtain⟨gs,hgs⟩:∃ gs,gs=(doF fs ⟨2,on,ot,od⟩).1:=⟨_,rfl⟩
              have HGS:Hid (gs=keptTo ops ks (tk:Int) safe (j+1)):=by rw[Hid,HNX.out,HEQ.out,hgs]
              have KD9:=fun W (hF:FMap W w1.heap.size mb (60+j) fs D4 S4) (hb:w1.heap.size≤W.heap.size)=>impl_renameOn on ot w1.heap.size mb (60+j) fs D4 S4 W (by have:=HSM.out;omega) (by have:=HSM.out;omega) (by have:=HJ.out;omega) hb hF
              rw[eD] at hgs
              simp only at hgs
              rw[←hgs] at KD9
              have HKD:Hid (∀ W,FMap W w1.heap.size mb (60+j) fs D4 S4→w1.heap.size≤W.heap.size→_):=fun W hF hb=>KD9 W hF hb
              have fA:=findsR on ot
              have fT:=tornFR on ot
              clear KD9 eD hgs HDV HRI HDA HKO HEQ HNX
              go_wp2_with fail
              refine KF.mono ?_
              rintro e w3 ⟨rfl,b3⟩
              rw[eV]
              have B3:Hid (Below w1.heap.size w1 w3):=HX.out.trans (b3.mono HX.out.size)
              have F3:Hid (FMap w3 w1.heap.size mb (60+j) fs D4 S4):=HFM.out.below b3
              clear KF b3 eV HFM o0 o1 o2 o3 k0 p0 p1 p2
              have KT:=impl_tornR on ot (tk:Int) w3
              go_wp2_with fail
              refine KT.mono ?_
              rintro e w4 ⟨rfl,b4⟩
              have B4:Hid (Below w1.heap.size w1 w4):=B3.out.trans (b4.mono B3.out.size)
              have F4:Hid (FMap w4 w1.heap.size mb (60+j) fs D4 S4):=F3.out.below b4
              clear KT b4 F3 fT
              have KD:=HKD.out w4 F4.out B4.out.size
              clear HKD
              go_wp2_with fail
              refine KD.mono ?_
              rintro e w5 ⟨rfl,b5,D5,S5,hF5⟩
              have B5:Hid (Below w1.heap.size w1 w5):=B4.out.trans b5
              have HNN:Hid (∃ D S,FMap w5 w1.heap.size mb (60+(j+1)) gs D S):=⟨D5,S5,hF5⟩
              clear KD b5 hF5
              go_wp2
              go_roundw
              case rel=>exact⟨j+1,by omega,by go_num,by rw[←HGS.out];exact HNN.out,B5.out⟩
              case measure=>simp[intOf];omega
            · have HEQ:Hid (keptOp ops ks (tk:Int) j=⟨3,on,ot,od⟩):=by
               rw[Hid,HKO.out,if_pos HLK.out,tornO,if_neg (fun h=>absurd h.1 (by simp))]
              have eV:deedV ⟨3,on,ot,od⟩=.iface 115 (.agg #[.string ⟨on.toArray⟩]):=by rw[HDV.out];simp
              have eD:=do_rem HRI.out on ot od
              obtain⟨gs,hgs⟩:∃ gs,gs=(doF fs ⟨3,on,ot,od⟩).1:=⟨_,rfl⟩
              have HGS:Hid (gs=keptTo ops ks (tk:Int) safe (j+1)):=by rw[Hid,HNX.out,HEQ.out,hgs]
              have KD9:=fun W (hF:FMap W w1.heap.size mb (60+j) fs D4 S4) (hb:w1.heap.size≤W.heap.size)=>impl_removeOn on w1.heap.size mb (60+j) fs D4 S4 W (by have:=HSM.out;omega) hb hF
              rw[eD] at hgs
              simp only at hgs
              rw[←hgs] at KD9
              have HKD:Hid (∀ W,FMap W w1.heap.size mb (60+j) fs D4 S4→w1.heap.size≤W.heap.size→_):=fun W hF hb=>KD9 W hF hb
              have fA:=findsM on
              have fT:=tornFM on
              clear KD9 eD hgs HDV HRI HDA HKO HEQ HNX
              go_wp2_with fail
              refine KF.mono ?_
              rintro e w3 ⟨rfl,b3⟩
              rw[eV]
              have B3:Hid (Below w1.heap.size w1 w3):=HX.out.trans (b3.mono HX.out.size)
              have F3:Hid (FMap w3 w1.heap.size mb (60+j) fs D4 S4):=HFM.out.below b3
              clear KF b3 eV HFM o0 o1 o2 o3 k0 p0 p1 p2
              have KT:=impl_tornM on (tk:Int) w3
              go_wp2_with fail
              refine KT.mono ?_
              rintro e w4 ⟨rfl,b4⟩
              have B4:Hid (Below w1.heap.size w1 w4):=B3.out.trans (b4.mono B3.out.size)
              have F4:Hid (FMap w4 w1.heap.size mb (60+j) fs D4 S4):=F3.out.below b4
              clear KT b4 F3 fT
              have KD:=HKD.out w4 F4.out B4.out.size
              clear HKD
              go_wp2_with fail
              refine KD.mono ?_
              rintro e w5 ⟨rfl,b5,D5,S5,hF5⟩
              have B5:Hid (Below w1.heap.size w1 w5):=B4.out.trans b5
              have HNN:Hid (∃ D S,FMap w5 w1.heap.size mb (60+(j+1)) gs D S):=⟨D5,S5,hF5⟩
              clear KD b5 hF5
              go_wp2
              go_roundw
              case rel=>exact⟨j+1,by omega,by go_num,by rw[←HGS.out];exact HNN.out,B5.out⟩
              case measure=>simp[intOf];omega
          · have hlb:((j:Int) == (ln:Int) - 1)=false:=by rw[beq_eq_false_iff_ne];omega
            have HLK:Hid (¬ j+1=ks.length):=by rw[Hid,←HLN.out];exact hl
            clear hl
            rcases hkk with rfl | rfl | rfl
            · have HEQ:Hid (keptOp ops ks (tk:Int) j=⟨1,on,ot,od⟩):=by
               rw[Hid,HKO.out,if_neg HLK.out]
              have eV:deedV ⟨1,on,ot,od⟩=.iface 111 (.agg #[.string ⟨on.toArray⟩,.string ⟨od.toArray⟩]):=by rw[HDV.out];simp
              have eD:=do_app fs on ot od
              obtain⟨gs,hgs⟩:∃ gs,gs=(doF fs ⟨1,on,ot,od⟩).1:=⟨_,rfl⟩
              have HGS:Hid (gs=keptTo ops ks (tk:Int) safe (j+1)):=by rw[Hid,HNX.out,HEQ.out,hgs]
              have KD9:=fun W (hF:FMap W w1.heap.size mb (60+j) fs D4 S4) (hb:w1.heap.size≤W.heap.size)=>impl_appendOn on od w1.heap.size mb (60+j) fs D4 S4 W (by have:=HSM.out;omega) (by have h1:=HDA.out on;have:=HSM.out;have h2:(od.take tk).length≤od.length:=(by rw[List.length_take];omega);omega) (by have:=HJ.out;omega) hb hF
              rw[eD] at hgs
              simp only at hgs
              rw[←hgs] at KD9
              have HKD:Hid (∀ W,FMap W w1.heap.size mb (60+j) fs D4 S4→w1.heap.size≤W.heap.size→_):=fun W hF hb=>KD9 W hF hb
              have fA:=findsA on od
              clear KD9 eD hgs HDV HRI HDA HKO HEQ HNX
              go_wp2_with fail
              refine KF.mono ?_
              rintro e w3 ⟨rfl,b3⟩
              rw[eV]
              have B3:Hid (Below w1.heap.size w1 w3):=HX.out.trans (b3.mono HX.out.size)
              have F3:Hid (FMap w3 w1.heap.size mb (60+j) fs D4 S4):=HFM.out.below b3
              clear KF b3 eV HFM o0 o1 o2 o3 k0 p0 p1 p2
              have KD:=HKD.out w3 F3.out B3.out.size
              clear HKD
              go_wp2_with fail
              refine KD.mono ?_
              rintro e w5 ⟨rfl,b5,D5,S5,hF5⟩
              have B5:Hid (Below w1.heap.size w1 w5):=B3.out.trans b5
              have HNN:Hid (∃ D S,FMap w5 w1.heap.size mb (60+(j+1)) gs D S):=⟨D5,S5,hF5⟩
              clear KD b5 hF5
              go_wp2
              go_roundw
              case rel=>exact⟨j+1,by omega,by go_num,by rw[←HGS.out];exact HNN.out,B5.out⟩
              case measure=>simp[intOf];omega
            · have HEQ:Hid (keptOp ops ks (tk:Int) j=⟨2,on,ot,od⟩):=by
               rw[Hid,HKO.out,if_neg HLK.out]
              have eV:deedV ⟨2,on,ot,od⟩=.iface 113 (.agg #[.string ⟨on.toArray⟩,.string ⟨ot.toArray⟩]):=by rw[HDV.out];simp
              have eD:=do_ren HRI.out on ot od
              obtain⟨gs,hgs⟩:∃ gs,gs=(doF fs ⟨2,on,ot,od⟩).1:=⟨_,rfl⟩
              have HGS:Hid (gs=keptTo ops ks (tk:Int) safe (j+1)):=by rw[Hid,HNX.out,HEQ.out,hgs]
              have KD9:=fun W (hF:FMap W w1.heap.size mb (60+j) fs D4 S4) (hb:w1.heap.size≤W.heap.size)=>impl_renameOn on ot w1.heap.size mb (60+j) fs D4 S4 W (by have:=HSM.out;omega) (by have:=HSM.out;omega) (by have:=HJ.out;omega) hb hF
              rw[eD] at hgs
              simp only at hgs
              rw[←hgs] at KD9
              have HKD:Hid (∀ W,FMap W w1.heap.size mb (60+j) fs D4 S4→w1.heap.size≤W.heap.size→_):=fun W hF hb=>KD9 W hF hb
              have fA:=findsR on ot
              clear KD9 eD hgs HDV HRI HDA HKO HEQ HNX
              go_wp2_with fail
              refine KF.mono ?_
              rintro e w3 ⟨rfl,b3⟩
              rw[eV]
              have B3:Hid (Below w1.heap.size w1 w3):=HX.out.trans (b3.mono HX.out.size)
              have F3:Hid (FMap w3 w1.heap.size mb (60+j) fs D4 S4):=HFM.out.below b3
              clear KF b3 eV HFM o0 o1 o2 o3 k0 p0 p1 p2
              have KD:=HKD.out w3 F3.out B3.out.size
              clear HKD
              go_wp2_with fail
              refine KD.mono ?_
              rintro e w5 ⟨rfl,b5,D5,S5,hF5⟩
              have B5:Hid (Below w1.heap.size w1 w5):=B3.out.trans b5
              have HNN:Hid (∃ D S,FMap w5 w1.heap.size mb (60+(j+1)) gs D S):=⟨D5,S5,hF5⟩
              clear KD b5 hF5
              go_wp2
              go_roundw
              case rel=>exact⟨j+1,by omega,by go_num,by rw[←HGS.out];exact HNN.out,B5.out⟩
              case measure=>simp[intOf];omega
            · have HEQ:Hid (keptOp ops ks (tk:Int) j=⟨3,on,ot,od⟩):=by
               rw[Hid,HKO.out,if_neg HLK.out]
              have eV:deedV ⟨3,on,ot,od⟩=.iface 115 (.agg #[.string ⟨on.toArray⟩]):=by rw[HDV.out];simp
              have eD:=do_rem HRI.out on ot od
              obtain⟨gs,hgs⟩:∃ gs,gs=(doF fs ⟨3,on,ot,od⟩).1:=⟨_,rfl⟩
              have HGS:Hid (gs=keptTo ops ks (tk:Int) safe (j+1)):=by rw[Hid,HNX.out,HEQ.out,hgs]
              have KD9:=fun W (hF:FMap W w1.heap.size mb (60+j) fs D4 S4) (hb:w1.heap.size≤W.heap.size)=>impl_removeOn on w1.heap.size mb (60+j) fs D4 S4 W (by have:=HSM.out;omega) hb hF
              rw[eD] at hgs
              simp only at hgs
              rw[←hgs] at KD9
              have HKD:Hid (∀ W,FMap W w1.heap.size mb (60+j) fs D4 S4→w1.heap.size≤W.heap.size→_):=fun W hF hb=>KD9 W hF hb
              have fA:=findsM on
              clear KD9 eD hgs HDV HRI HDA HKO HEQ HNX
              go_wp2_with fail
              refine KF.mono ?_
              rintro e w3 ⟨rfl,b3⟩
              rw[eV]
              have B3:Hid (Below w1.heap.size w1 w3):=HX.out.trans (b3.mono HX.out.size)
              have F3:Hid (FMap w3 w1.heap.size mb (60+j) fs D4 S4):=HFM.out.below b3
              clear KF b3 eV HFM o0 o1 o2 o3 k0 p0 p1 p2
              have KD:=HKD.out w3 F3.out B3.out.size
              clear HKD
              go_wp2_with fail
              refine KD.mono ?_
              rintro e w5 ⟨rfl,b5,D5,S5,hF5⟩
              have B5:Hid (Below w1.heap.size w1 w5):=B3.out.trans b5
              have HNN:Hid (∃ D S,FMap w5 w1.heap.size mb (60+(j+1)) gs D S):=⟨D5,S5,hF5⟩
              clear KD b5 hF5
              go_wp2
              go_roundw
              case rel=>exact⟨j+1,by omega,by go_num,by rw[←HGS.out];exact HNN.out,B5.out⟩
              case measure=>simp[intOf];omega
        · have hje:j=ks.length:=by have:=HLN.out;omega
          have hj1:¬ (j:Int)<(ln:Int):=by omega
          obtain⟨i1,i2,i3,i4,nx,i5,i6,i7,i8,i9⟩:=HINV.out j (by omega)
          have hds1:=dsum_le ops nx
          have hdsz:=HA.out
          rw[hje] at HF i1 i2 i3 i9
          obtain⟨fs,hfs2⟩:∃ x,x=keptTo ops ks (tk:Int) safe ks.length:=⟨_,rfl⟩
          rw[←hfs2] at HF HB3 HRL i1 i2 i3 i9
          obtain⟨D4,S4,hF4⟩:=HF.out
          obtain⟨nn,hnn⟩:∃ x,x=60+ks.length:=⟨_,rfl⟩
          rw[←hnn] at hF4
          have HFM:Hid (FMap wr w1.heap.size mb nn fs D4 S4):=hF4
          have hdN:dataN fs≤1000000000000:=by
           have:=dataN_le2 fs 260 1300000 (by omega) (fun p hp=>by have:=(i9 p hp).2;omega)
           omega
          have KT:=impl_fit w1.heap.size mb nn fs D4 S4 wr hdN hF4
          rw[←filesOk_fit i1 i2] at KT
          obtain⟨fo,hfo⟩:∃ x,x=filesOk fs:=⟨_,rfl⟩
          rw[←hfo] at KT HB3
          have HSZ:Hid (fs.length≤10000∧∀ p∈fs,p.1.length≤16777216):=⟨by omega,fun p hp=>by have:=(i9 p hp).1;omega⟩
          have RW:Hid (wr.heap[w.heap.size+1]? = some (.cells #[.slice none 0 0,.slice none 0 0,.slice none 0 0] 31 (0,0))):=(HX.out.block _ (lt_of_block R1.out)).trans R1.out
          clear hfo hfs2 i1 i2 i3 i4 i5 i6 i7 i8 i9 hds1 hdsz hje HINV hF4 HF hnn hdN
          go_wp2_with fail
          refine KT.mono ?_
          rintro e w8 ⟨rfl,b8⟩
          have BW8:Hid (Below w.heap.size w w8):=BW.out.trans (b8.mono BW.out.size)
          have RW8:Hid (w8.heap[w.heap.size+1]? = some (.cells #[.slice none 0 0,.slice none 0 0,.slice none 0 0] 31 (0,0))):=(b8.block _ (lt_of_block RW.out)).trans RW.out
          have HF8:Hid (FMap w8 w1.heap.size mb nn fs D4 S4):=HFM.out.below b8
          have HL8:Hid (w1.heap.size≤w8.heap.size):=Nat.le_trans HX.out.size b8.size
          clear KT b8 HFM RW
          cases fo with
          | false =>
            have HE:Hid (rb=false):=HB3.out
            obtain⟨r0,r1,r2,rf⟩:=three_cells RW8.out
            have rf0:=rf 0
            have rf1:=rf 1
            have rf2:=rf 2
            have HY:Hid (_=_):=dk_set (j:=2) (z:=.slice none 0 0) (dk_set (j:=1) (z:=.slice none 0 0) (dk_set (j:=0) (z:=.slice none 0 0) RW8.out))
            have HP:Hid (JcPost w _ _ rl rb):=jcpost_none HE.out (HN.out HE.out) BW8.out
            clear rf HS HA HRL HB3
            go_wp2
            refine bodyPost_ret (v:=.tuple #[.agg #[.slice none 0 0,.slice none 0 0,.slice none 0 0],.bool false]) (results_disk rfl _ _ (w.heap.size+1) 31 _ (0,0) _ _ rfl HY.out Try.underlying31 rfl (by kernel_rfl) rfl) rfl ?_
            exact HP.out
          | true =>
            have HEL:Hid (rl=fs):=by rw[Hid,HRL.out,HB3.out];rfl
            have KL1:=impl_list w1.heap.size mb nn fs D4 S4 w8 HSZ.out.1 HSZ.out.2 HF8.out
            clear HRL
            go_wp2_with fail
            refine KL1.mono ?_
            rintro e w9 ⟨x1,m1,k1,rfl,n1,b9⟩
            obtain⟨hq1,_,_⟩:=isPairs_own n1
            have HO1:Hid (w9.ownsRow w8.heap.size 84 2 (.slice x1 m1 k1) m1 (pcells fs)∧m1=fs.length):=⟨by have h:=n1;rw[←hq1] at h;exact h,hq1⟩
            have HF9:Hid (FMap w9 w1.heap.size mb nn fs D4 S4):=HF8.out.below b9
            have B9:Hid (Below w8.heap.size w8 w9):=b9
            have KL2:=impl_list w1.heap.size mb nn fs D4 S4 w9 HSZ.out.1 HSZ.out.2 HF9.out
            clear KL1 n1 hq1 b9
            go_wp2_with fail
            refine KL2.mono ?_
            rintro e w10 ⟨x2,m2,k2,rfl,n2,b10⟩
            obtain⟨hq2,_,_⟩:=isPairs_own n2
            obtain rfl:m2=m1:=by rw[hq2];exact HO1.out.2.symm
            have HO2:Hid (w10.ownsRow w9.heap.size 84 2 (.slice x2 m2 k2) m2 (pcells fs)):=by have h:=n2;rw[←hq2] at h;exact h
            have B10:Hid (Below w8.heap.size w8 w10):=B9.out.trans (b10.mono B9.out.size)
            have HO1':Hid (w10.ownsRow w8.heap.size 84 2 (.slice x1 m2 k1) m2 (pcells fs)):=kept2 HO1.out.1 b10
            have HFL:Hid (m2=fs.length):=HO1.out.2
            have HLT:Hid (∀ q,(Value.slice x1 m2 k1).ownBlock=some q→q<w9.heap.size):=fun q hq=>(HO1.out.1.lt q hq).2
            have R9:Hid (w10.heap[w.heap.size+1]? = some (.cells #[.slice none 0 0,.slice none 0 0,.slice none 0 0] 31 (0,0))):=(B10.out.block _ (lt_of_block RW8.out)).trans RW8.out
            obtain⟨r0,r1,r2,rf⟩:=three_cells R9.out
            have rf0:=rf 0
            have rf1:=rf 1
            have rf2:=rf 2
            have HY:Hid (_=_):=dk_set (j:=2) (z:=.slice none 0 0) (dk_set (j:=1) (z:=.slice x2 m2 k2) (dk_set (j:=0) (z:=.slice x1 m2 k1) R9.out))
            have HP:Hid (JcPost w _ _ rl rb):=jcpost_of (k1:=k1) (k2:=k2) (r:=fs) (Nat.lt_of_lt_of_le HL1.out HL8.out) B9.out.size (BW8.out.trans (B10.out.mono BW8.out.size)) HO1'.out HO2.out HLT.out HFL.out HB3.out HEL.out
            clear KL2 n2 hq2 b10 rf
            go_wp2
            refine bodyPost_ret (v:=.tuple #[.agg #[.slice x1 m2 k1,.slice x2 m2 k2,.slice none 0 0],.bool true]) (results_disk rfl _ _ (w.heap.size+1) 31 _ (0,0) _ _ rfl HY.out Try.underlying31 rfl (by kernel_rfl) rfl) rfl ?_
            exact HP.out
     · have htl:decide (tn<0)=true:=decide_eq_true (by omega)
       have htn:tn<0:=by omega
       have HE:Hid (rb=false):=by rw[Hid,HRB.out,decide_eq_false ht];rfl
       clear HRB
       obtain⟨r0,r1,r2,rf⟩:=three_cells R1.out
       have rf0:=rf 0
       have rf1:=rf 1
       have rf2:=rf 2
       have HY:Hid (_=_):=dk_set (j:=2) (z:=.slice none 0 0) (dk_set (j:=1) (z:=.slice none 0 0) (dk_set (j:=0) (z:=.slice none 0 0) R1.out))
       have HP:Hid (JcPost w _ _ rl rb):=jcpost_none HE.out (HN.out HE.out) B1
       clear rf HS HA HRL
       go_wp2
       refine bodyPost_ret (v:=.tuple #[.agg #[.slice none 0 0,.slice none 0 0,.slice none 0 0],.bool false]) (results_disk rfl _ _ (w.heap.size+1) 31 _ (0,0) _ _ rfl HY.out Try.underlying31 rfl (by kernel_rfl) rfl) rfl ?_
       exact HP.out
end Go.Proofs.Ytlllkdioojjaeaa
