/-
 Clients: the laws' own helpers, ClientOk of both sides, a client that came in (written by mkcli.py).
-/
import Derived.Test.YtbpgpmchnjbclaaDoorKeys
import Derived.Test.YtbpgpmchnjbclaaDoorStrsAll
import Derived.Test.YtbpgpmchnjbclaaDoorRows
import Derived.ProofKit
import Derived.SliceStrings
import Derived.Lib.SmallJoins
namespace Go.Proofs.YtbpgpmchnjbclaaDoor
open Go.RowKit
set_option linter.unusedVariables false
theorem cli_cells {w:World} {b:Nat} {u v x:Value} {t:TypeId} (h:w.heap[b]? = some (.cells #[u,v,x] t (0,0))) :
 w.cell? ⟨b,0,none⟩=some u∧w.cell? ⟨b,1,none⟩=some v∧w.cell? ⟨b,2,none⟩=some x∧∀ j,w.frozen? ⟨b,j,none⟩=false:=by
 refine⟨?_,?_,?_,fun j=>frozen_of_row w b j _ t h⟩ <;> simp only[World.cell?,h] <;> rfl
theorem cli_set {w:World} {b j:Nat} {u v x y:Value} {t:TypeId} (h:w.heap[b]? = some (.cells #[u,v,x] t (0,0))):(w.setCell ⟨b,j,none⟩ y).heap[b]? = some (.cells (#[u,v,x].setIfInBounds j y) t (0,0)):=by
 have hlt:=lt_of_block h
 have h':w.heap[b]=.cells #[u,v,x] t (0,0):=by simpa [Array.getElem?_eq_getElem hlt] using h
 show (w.heap.modify b _)[b]? = _
 rw[Array.getElem?_eq_getElem (by simpa using hlt),Array.getElem_modify_self,h']
 rfl
theorem keptK {w w':World} {base e n:Nat} {v:Value} {xs:List Value} (h:w.ownsRow base e 1 v n xs) (hb:Below w.heap.size w w'):w'.ownsRow base e 1 v n xs:=h.kept (row:=none) ⟨hb.os,hb.tape,hb.output,hb.size,fun k hk _=>hb.block k hk⟩ (by cases v.ownBlock with | none=>exact .inl rfl | some k=>exact .inr (by simp))
def numIn (s a b:Int):Bool:=decide (a≤s) && decide (s≤b)
def clientOk (ls:List (List UInt8)) (s n:Int):Bool:=keysOk ls && (numIn s 0 1000000000000 && numIn n 1 1000000000000)
theorem numIn_yes (s a b:Int) (h1:a≤s) (h2:s≤b):numIn s a b=true:=by simp[numIn,h1,h2]
theorem numIn_low (s a b:Int) (h1:¬ a≤s):numIn s a b=false:=by simp[numIn,h1]
theorem numIn_high (s a b:Int) (h1:¬ s≤b):numIn s a b=false:=by simp[numIn,h1]
set_option maxRecDepth 100000 in
theorem l1In_is (n a b:Int) (w:World) :
 Calls Tryd.prog 44 #[.int .i64 n,.int .i64 a,.int .i64 b] w fun e w'=>e=.returned (.bool (numIn n a b))∧w'=w:=by
 by_cases h1:a≤n
 · by_cases h2:n≤b
   · have HZ:Hid (numIn n a b=true):=numIn_yes n a b h1 h2
     go_enter Tryd.func44,Tryd.ntmps44
     go_wp2
     go_ret
     exact⟨by rw[HZ.out];rfl,rfl⟩
   · have HZ:Hid (numIn n a b=false):=numIn_high n a b h2
     go_enter Tryd.func44,Tryd.ntmps44
     go_wp2
     go_ret
     exact⟨by rw[HZ.out];rfl,rfl⟩
 · have HZ:Hid (numIn n a b=false):=numIn_low n a b h1
   go_enter Tryd.func44,Tryd.ntmps44
   go_wp2
   go_ret
   exact⟨by rw[HZ.out];rfl,rfl⟩
set_option maxRecDepth 100000 in
set_option maxHeartbeats 1000000 in
theorem spec_clientOk (a:Option Addr) (cap:Nat) (ls:List (List UInt8)) (s n:Int) (w:World) (hl:ls.length≤1048576) (hm:∀ l∈ls,l.length≤1048576) (hs:IsStrs w a ls) :
 Calls Tryd.prog 25 #[.agg #[.slice a ls.length cap,.int .i64 s,.int .i64 n]] w fun e w'=>e=.returned (.bool (clientOk ls s n))∧Below w.heap.size w w':=by
 have B0:Below w.heap.size w (w.alloc (.cells #[.slice a ls.length cap,.int .i64 s,.int .i64 n] 28)):=(Below.refl _ _).alloc (Nat.le_refl _) _
 have K1:=spec_l11Keys a cap ls (w.alloc (.cells #[.slice a ls.length cap,.int .i64 s,.int .i64 n] 28)) hl hm (strs_later hs B0)
 have K2:=fun W=>l1In_is s 0 1000000000000 W
 have K3:=fun W=>l1In_is n 1 1000000000000 W
 have HD:Hid (clientOk ls s n=(keysOk ls && (numIn s 0 1000000000000 && numIn n 1 1000000000000))):=rfl
 have q0:=cli_cells (heap_alloc_new w (.cells #[.slice a ls.length cap,.int .i64 s,.int .i64 n] 28))
 obtain⟨c0,c1,c2,_⟩:=q0
 obtain⟨kb,hkb⟩:∃ kb,kb=keysOk ls:=⟨_,rfl⟩
 obtain⟨sb,hsb⟩:∃ sb,sb=numIn s 0 1000000000000:=⟨_,rfl⟩
 obtain⟨nb,hnb⟩:∃ nb,nb=numIn n 1 1000000000000:=⟨_,rfl⟩
 rw[←hkb] at K1 HD
 rw[←hsb] at K2 HD
 rw[←hnb] at K3 HD
 clear hkb hsb hnb hs hm
 go_enter Tryd.func25,Tryd.ntmps25
 go_wp2_with fail
 refine K1.mono ?_
 rintro e w1 ⟨rfl,rfl⟩
 cases kb with
 | false =>
   go_wp2
   go_ret
   exact⟨by rw[HD.out];rfl,B0⟩
 | true =>
   go_wp2_with fail
   refine (K2 _).mono ?_
   rintro e w1 ⟨rfl,rfl⟩
   cases sb with
   | false =>
     go_wp2
     go_ret
     exact⟨by rw[HD.out];rfl,B0⟩
   | true =>
     go_wp2_with fail
     refine (K3 _).mono ?_
     rintro e w1 ⟨rfl,rfl⟩
     go_wp2
     go_ret
     exact⟨by rw[HD.out];rfl,B0⟩
set_option maxRecDepth 100000 in
set_option maxHeartbeats 1000000 in
theorem impl_clientOk (a:Option Addr) (cap:Nat) (ls:List (List UInt8)) (s n:Int) (w:World) (hl:ls.length≤1048576) (hm:∀ l∈ls,l.length≤1048576) (hs:IsStrs w a ls) :
 Calls Tryd.prog 46 #[.agg #[.slice a ls.length cap,.int .i64 s,.int .i64 n]] w fun e w'=>e=.returned (.bool (clientOk ls s n))∧Below w.heap.size w w':=by
 have B0:Below w.heap.size w (w.alloc (.cells #[.slice a ls.length cap,.int .i64 s,.int .i64 n] 28)):=(Below.refl _ _).alloc (Nat.le_refl _) _
 have K1:=impl_areKeys a cap ls (w.alloc (.cells #[.slice a ls.length cap,.int .i64 s,.int .i64 n] 28)) hl hm (strs_later hs B0)
 have HD:Hid (clientOk ls s n=(keysOk ls && (numIn s 0 1000000000000 && numIn n 1 1000000000000))):=rfl
 obtain⟨c0,c1,c2,_⟩:=cli_cells (heap_alloc_new w (.cells #[.slice a ls.length cap,.int .i64 s,.int .i64 n] 28))
 obtain⟨kb,hkb⟩:∃ kb,kb=keysOk ls:=⟨_,rfl⟩
 rw[←hkb] at K1 HD
 clear hkb hs hm
 go_enter Tryd.func46,Tryd.ntmps46
 go_wp2_with fail
 refine K1.mono ?_
 rintro e w1 ⟨rfl,rfl⟩
 cases kb with
 | false =>
   go_wp2
   go_ret
   exact⟨by rw[HD.out];rfl,B0⟩
 | true =>
   by_cases s1:0≤s
   · by_cases s2:s≤1000000000000
     · by_cases n1:1≤n
       · by_cases n2:n≤1000000000000
         · have HZ:Hid (clientOk ls s n=true):=by rw[Hid,HD.out,numIn_yes _ _ _ s1 s2,numIn_yes _ _ _ n1 n2];rfl
           go_wp2
           go_ret
           exact⟨by rw[HZ.out];rfl,B0⟩
         · have HZ:Hid (clientOk ls s n=false):=by rw[Hid,HD.out,numIn_high _ _ _ n2,Bool.and_false];rfl
           have HQ:Hid (decide (n≤1000000000000)=false):=decide_eq_false n2
           go_wp2
           go_ret
           exact⟨by rw[HZ.out];show Ending.returned (.bool (decide (n≤1000000000000)))=_;rw[HQ.out],B0⟩
       · have HZ:Hid (clientOk ls s n=false):=by rw[Hid,HD.out,numIn_low _ _ _ n1,Bool.and_false];rfl
         go_wp2
         go_ret
         exact⟨by rw[HZ.out];rfl,B0⟩
     · have HZ:Hid (clientOk ls s n=false):=by rw[Hid,HD.out,numIn_high _ _ _ s2];rfl
       go_wp2
       go_ret
       exact⟨by rw[HZ.out];rfl,B0⟩
   · have HZ:Hid (clientOk ls s n=false):=by rw[Hid,HD.out,numIn_low _ _ _ s1];rfl
     go_wp2
     go_ret
     exact⟨by rw[HZ.out];rfl,B0⟩
set_option maxRecDepth 100000 in
set_option maxHeartbeats 1000000 in
theorem szClient_any (a:Option Addr) (cap:Nat) (ls:List (List UInt8)) (s n:Int) (w:World) (hl:ls.length≤9223372036854775807) (hm:∀ l∈ls,l.length≤9223372036854775807) (hs:IsStrs w a ls) :
 Calls Tryd.prog 5 #[.agg #[.slice a ls.length cap,.int .i64 s,.int .i64 n],.int .i64 1048576] w fun e w'=>(e=.returned (.int .i64 (-1))∨(ls.length+ls.flatten.length≤1048576∧∃ n:Nat,e=.returned (.int .i64 (n:Int))))∧Below w.heap.size w w':=by
 have B0:Below w.heap.size w (w.alloc (.cells #[.slice a ls.length cap,.int .i64 s,.int .i64 n] 24)):=(Below.refl _ _).alloc (Nat.le_refl _) _
 have BB:Hid (Below w.heap.size w (w.alloc (.cells #[.slice a ls.length cap,.int .i64 s,.int .i64 n] 24))):=B0
 have K:=szS_any a cap ls (w.alloc (.cells #[.slice a ls.length cap,.int .i64 s,.int .i64 n] 24)) hl hm (strs_later hs B0)
 clear hs hm B0
 go_enter Tryd.func5,Tryd.ntmps5
 go_wp2_with fail
 refine K.mono ?_
 rintro e w1 ⟨he,rfl⟩
 have B1:=BB.out
 clear K
 rcases he with rfl | ⟨hle,q,rfl⟩
 · go_wp2
   go_ret
   exact⟨.inl rfl,B1⟩
 · have HL:Hid (ls.length+ls.flatten.length≤1048576):=hle
   clear hle
   go_wp2
   go_ret
   exact⟨.inr ⟨HL.out,q,rfl⟩,B1⟩
set_option maxRecDepth 100000 in
set_option maxHeartbeats 1000000 in
theorem toClient_any (a:Option Addr) (cap:Nat) (ls:List (List UInt8)) (s n:Int) (w:World) (hl:ls.length≤1048576) (hs:IsStrs w a ls) :
 Calls Tryd.prog 8 #[.agg #[.slice a ls.length cap,.int .i64 s,.int .i64 n]] w fun e w'=>∃ g:Nat,e=.returned (.agg #[.slice (some ⟨g,0,none⟩) ls.length ls.length,.int .i64 s,.int .i64 n])∧w'.ownsRow w.heap.size 9 1 (.slice (some ⟨g,0,none⟩) ls.length ls.length) ls.length (scells ls)∧Below w.heap.size w w':=by
 obtain⟨wa,hwa⟩:∃ wa,wa=((w.alloc (.cells #[.slice a ls.length cap,.int .i64 s,.int .i64 n] 24)).alloc (.cells #[.slice none 0 0,.int .i64 0,.int .i64 0] 28)).alloc (.cells #[.slice none 0 0,.int .i64 0,.int .i64 0] 28):=⟨_,rfl⟩
 have Ba:Below w.heap.size w wa:=by rw[hwa];exact (((Below.refl _ _).alloc (Nat.le_refl _) _).alloc (by simp) _).alloc (by simp;omega) _
 have sa:wa.heap.size=w.heap.size+3:=by rw[hwa];simp
 have a0:wa.heap[w.heap.size]? = some (.cells #[.slice a ls.length cap,.int .i64 s,.int .i64 n] 24 (0,0)):=by rw[hwa,Below.heap_alloc _ _ _ (by simp;omega),Below.heap_alloc _ _ _ (by simp)];exact heap_alloc_new w _
 have a1:wa.heap[w.heap.size+1]? = some (.cells #[.slice none 0 0,.int .i64 0,.int .i64 0] 28 (0,0)):=by
  rw[hwa,Below.heap_alloc _ _ _ (by simp)]
  have:=heap_alloc_new (w.alloc (.cells #[.slice a ls.length cap,.int .i64 s,.int .i64 n] 24)) (.cells #[.slice none 0 0,.int .i64 0,.int .i64 0] 28)
  simpa using this
 have a2:wa.heap[w.heap.size+2]? = some (.cells #[.slice none 0 0,.int .i64 0,.int .i64 0] 28 (0,0)):=by
  rw[hwa]
  have:=heap_alloc_new ((w.alloc (.cells #[.slice a ls.length cap,.int .i64 s,.int .i64 n] 24)).alloc (.cells #[.slice none 0 0,.int .i64 0,.int .i64 0] 28)) (.cells #[.slice none 0 0,.int .i64 0,.int .i64 0] 28)
  rw[show ((w.alloc (.cells #[.slice a ls.length cap,.int .i64 s,.int .i64 n] 24)).alloc (.cells #[.slice none 0 0,.int .i64 0,.int .i64 0] 28)).heap.size=w.heap.size+2 by simp] at this
  exact this
 have K1:=toS_any a cap ls wa hl (strs_later hs Ba)
 have HWA:Hid (wa=((w.alloc (.cells #[.slice a ls.length cap,.int .i64 s,.int .i64 n] 24)).alloc (.cells #[.slice none 0 0,.int .i64 0,.int .i64 0] 28)).alloc (.cells #[.slice none 0 0,.int .i64 0,.int .i64 0] 28)):=hwa
 clear hs hwa
 go_enter Tryd.func8,Tryd.ntmps8
 go_wp2_with fail
 rw[←HWA.out]
 refine K1.mono ?_
 rintro e w1 ⟨rfl,o1,b1⟩
 rw[sa] at o1 ⊢
 have B1:=Ba.trans (b1.mono (by omega))
 have e0:=(b1.block (w.heap.size) (by omega)).trans a0
 have e1:=(b1.block (w.heap.size+1) (by omega)).trans a1
 have e2:=(b1.block (w.heap.size+2) (by omega)).trans a2
 have s1:w.heap.size+3<w1.heap.size:=own_lt o1
 have O1:=hidOwn o1
 obtain⟨x0,x1,x2,xf⟩:=cli_cells e0
 obtain⟨p0,p1,p2,pf⟩:=cli_cells e2
 obtain⟨q0,q1,q2,qf⟩:=cli_cells e1
 have pf0:=pf 0
 have pf1:=pf 1
 have pf2:=pf 2
 have qf0:=qf 0
 have qf1:=qf 1
 have qf2:=qf 2
 clear K1 a0 a1 a2 b1 Ba o1 sa xf pf qf HWA
 go_wp2
 have z1:=cli_set (j:=0) (y:=(.slice (some ⟨w.heap.size+3,0,none⟩) ls.length ls.length)) e2
 have y0:((w1.setCell ⟨w.heap.size+1+1,0,none⟩ (.slice (some ⟨w.heap.size+3,0,none⟩) ls.length ls.length)).setCell ⟨w.heap.size+1+1,1,none⟩ (.int .i64 s)).heap[w.heap.size+1]? = _:=(Below.heap_setCell _ _ _ _ (by simp)).trans ((Below.heap_setCell _ _ _ _ (by simp)).trans e1)
 have y1:(((w1.setCell ⟨w.heap.size+1+1,0,none⟩ (.slice (some ⟨w.heap.size+3,0,none⟩) ls.length ls.length)).setCell ⟨w.heap.size+1+1,1,none⟩ (.int .i64 s)).setCell ⟨w.heap.size+1+1,2,none⟩ (.int .i64 n)).heap[w.heap.size+1]? = _:=(Below.heap_setCell _ _ _ _ (by simp)).trans y0
 have y2:=cli_set (j:=0) (y:=(.slice (some ⟨w.heap.size+3,0,none⟩) ls.length ls.length)) y1
 have y3:=cli_set (j:=1) (y:=.int .i64 s) y2
 have y4:=cli_set (j:=2) (y:=.int .i64 n) y3
 have hO:=ownsRow_setCell_other (ownsRow_setCell_other (ownsRow_setCell_other (ownsRow_setCell_other (ownsRow_setCell_other (ownsRow_setCell_other (a:=⟨w.heap.size+1+1,0,none⟩) O1.out (by simp[Value.ownBlock]) (.slice (some ⟨w.heap.size+3,0,none⟩) ls.length ls.length)) (a:=⟨w.heap.size+1+1,1,none⟩) (by simp[Value.ownBlock]) (.int .i64 s)) (a:=⟨w.heap.size+1+1,2,none⟩) (by simp[Value.ownBlock]) (.int .i64 n)) (a:=⟨w.heap.size+1,0,none⟩) (by simp[Value.ownBlock]) (.slice (some ⟨w.heap.size+3,0,none⟩) ls.length ls.length)) (a:=⟨w.heap.size+1,1,none⟩) (by simp[Value.ownBlock]) (.int .i64 s)) (a:=⟨w.heap.size+1,2,none⟩) (by simp[Value.ownBlock]) (.int .i64 n)
 exact bodyPost_ret (v:=.agg #[(.slice (some ⟨w.heap.size+3,0,none⟩) ls.length ls.length),.int .i64 s,.int .i64 n]) (results_cell_row rfl _ _ (w.heap.size+1) 28 _ (0,0) _ rfl y4 Tryd.underlying28 rfl (by kernel_rfl)) rfl ⟨w.heap.size+3,rfl,hO.mono (by omega),(((((B1.setCell (by simp;omega) _).setCell (by simp;omega) _).setCell (by simp;omega) _).setCell (by simp) _).setCell (by simp) _).setCell (by simp) _⟩
set_option maxRecDepth 100000 in
set_option maxHeartbeats 1000000 in
theorem eqClient_same (a1 a2:Option Addr) (m1 m2 c1 c2:Nat) (ls:List (List UInt8)) (s n:Int) (b1 b2:Nat) (w:World) (hl:ls.length≤16777216) (h1:w.ownsRow b1 9 1 (.slice a1 m1 c1) ls.length (scells ls)) (h2:w.ownsRow b2 9 1 (.slice a2 m2 c2) ls.length (scells ls)) :
 Calls Tryd.prog 11 #[.agg #[.slice a1 m1 c1,.int .i64 s,.int .i64 n],.agg #[.slice a2 m2 c2,.int .i64 s,.int .i64 n]] w fun e w'=>e=.returned (.bool true)∧Below w.heap.size w w':=by
 obtain⟨wa,hwa⟩:∃ wa,wa=(w.alloc (.cells #[.slice a1 m1 c1,.int .i64 s,.int .i64 n] 28)).alloc (.cells #[.slice a2 m2 c2,.int .i64 s,.int .i64 n] 28):=⟨_,rfl⟩
 have Ba:Below w.heap.size w wa:=by rw[hwa];exact ((Below.refl _ _).alloc (Nat.le_refl _) _).alloc (by simp) _
 have K1:=eqS_same ls _ _ _ _ wa hl (keptK h1 Ba) (keptK h2 Ba)
 rw[hwa] at K1
 have e0:wa.heap[w.heap.size]? = some (.cells #[.slice a1 m1 c1,.int .i64 s,.int .i64 n] 28 (0,0)):=by rw[hwa,Below.heap_alloc _ _ _ (by simp)];exact heap_alloc_new w _
 have e1:wa.heap[w.heap.size+1]? = some (.cells #[.slice a2 m2 c2,.int .i64 s,.int .i64 n] 28 (0,0)):=by
  rw[hwa]
  have:=heap_alloc_new (w.alloc (.cells #[.slice a1 m1 c1,.int .i64 s,.int .i64 n] 28)) (.cells #[.slice a2 m2 c2,.int .i64 s,.int .i64 n] 28)
  simpa using this
 clear h1 h2
 go_enter Tryd.func11,Tryd.ntmps11
 go_wp2_with fail
 refine K1.mono ?_
 rintro e w1 ⟨rfl,q,rfl⟩
 rw[←hwa]
 obtain⟨_,p1,p2,_⟩:=cli_cells e0
 obtain⟨_,q1,q2,_⟩:=cli_cells e1
 clear K1 hwa e0 e1
 go_wp2
 go_ret
 exact⟨rfl,Ba.os,Ba.tape,Ba.output,Ba.size,Ba.block⟩
end Go.Proofs.YtbpgpmchnjbclaaDoor
namespace Go.Proofs.YtbpgpmchnjbclaaDoor
open Go.ChangeShapes Go.WideShapes Go.ChangeAt Go.RowKit
theorem cstrs_of {H:Type} {enc:TypeId × Value→H} {W:World} {fuel:Nat} {u:Value} {y:DataW H × List MemPlace} (hf:DataW.trod enc Tryd.prog W 0 (fun _=>true) true fuel 22 [u]=some y) :
 ∃ (a:Option Addr) (ls:List (List UInt8)) (cap:Nat),u=.slice a ls.length cap∧(∀ l∈ls,l.length≤9223372036854775807)∧IsStrs W a ls∧ls.length≤9223372036854775807:=by
 rcases open_strings Tryd.underlying22 Tryd.underlying9 (by kernel_rfl) hf with ⟨hcs,_⟩ | ⟨x,l,c,ss,hcs,_,hl,hm,hz,_,hcell,hwz⟩
 · simp at hcs
   exact⟨none,[],0,hcs,by simp,.inl rfl,by simp⟩
 · simp at hcs
   unfold maxLen at hm
   have hz':ss.length=c:=by simpa using hz
   refine⟨some x,(ss.take l).map (·.data.toList),c,by rw[hcs];simp;omega,?_,?_,by simp;omega⟩
   · intro l hlm
     simp only[List.mem_map] at hlm
     obtain⟨s,hs1,rfl⟩:=hlm
     have:=hwz s (List.mem_of_mem_take hs1)
     unfold maxLen at this
     rw[Array.length_toList];exact this
   · by_cases h0:l=0
     · exact .inl (by simp[h0])
     · obtain⟨b,off,spot⟩:=x
       have hc:=hcell 0 (by omega)
       have hspot:spot=none:=by simpa [Addr.add] using World.cell?_spot hc
       subst hspot
       refine .inr ⟨b,off,rfl,fun j hj=>?_⟩
       simp at hj
       have hjs:j<ss.length:=by omega
       have hcj:=hcell j hjs
       have e1:(⟨b,off,none⟩:Addr).add j=⟨b,off+j,none⟩:=by simp[Addr.add]
       rw[e1,List.getD_eq_getElem?_getD,List.getElem?_eq_getElem hjs,Option.getD_some] at hcj
       rw[hcj]
       simp only[List.getElem_map,List.getElem_take]
set_option maxRecDepth 100000 in
theorem client_of {H:Type} {enc:TypeId × Value→H} {W:World} {r:Reach} {b0:Nat} {v:Value} {d:DataW H} {p:List MemPlace} (hv:Value.okWide Tryd.prog W r b0 24 v) (h:DataW.Trod enc Tryd.prog W 0 (fun _=>true) true 24 v d p) :
 ∃ (a:Option Addr) (cap:Nat) (ls:List (List UInt8)) (s n:Int),v=.agg #[.slice a ls.length cap,.int .i64 s,.int .i64 n]∧IsStrs W a ls∧ls.length≤9223372036854775807∧(∀ l∈ls,l.length≤9223372036854775807):=by
 obtain⟨u0,u1,u2,y0,y1,y2,n,rfl,_,_,t0,t1,t2⟩:=Go.Joins.open_agg3 Tryd.underlying24 (by kernel_rfl) (by kernel_rfl) hv h
 obtain⟨a,ls,cap,rfl,m1,s1,l1⟩:=cstrs_of t0
 obtain⟨c,hc,_,_⟩:=DataW.trod_int Tryd.underlying2 t1
 obtain⟨m,hm,_,_⟩:=DataW.trod_int Tryd.underlying2 t2
 simp at hc hm
 subst hc hm
 exact⟨a,cap,ls,c,m,rfl,s1,l1,m1⟩
end Go.Proofs.YtbpgpmchnjbclaaDoor
