/-
 Texts that are laid as one: AppP, ClF, AppD, ClD.
-/
import Derived.Test.YtlllkdioojjaeaaMathPair
import Derived.Laws.AppendOwnNone
import Derived.Test.YtlllkdioojjaeaaNewP
import Derived.Test.YtlllkdioojjaeaaDOpS
namespace Go.Proofs.Ytlllkdioojjaeaa
open Go.RowKit
set_option linter.unusedVariables false
theorem flat_prs {w:World} {a:Option Addr} {ad:Addr} {qs:List PairL} (h:IsPairs w a qs) (ha:a=some ad):∀ j u,(pcells qs)[j]? = some u→w.cell? (ad.add j)=some u:=by
 intro j u hu
 rcases h with rfl | ⟨b,off,h1,h2⟩
 · simp[pcells] at hu
 · rw[h1] at ha
   cases ha
   have hj:j<qs.length*2:=by
    have:=(List.getElem?_eq_some_iff.1 hu).1
    rwa [pcells_length] at this
   have hc:=h2 (j / 2) (by omega)
   have hp:=pcells_at qs (j / 2) (by omega)
   have hm:j % 2=0∨j % 2=1:=by omega
   have hadd:∀ x:Nat,(⟨b,off,none⟩:Addr).add x=⟨b,off+x,none⟩:=fun x=>by
    by_cases e:x=0
    · subst e;simp[Addr.add]
    · simp[Addr.add,e]
   rw[hadd]
   rcases hm with h0 | h0
   · have e:j=j / 2*2:=by omega
     rw[e] at hu ⊢
     rw[hp.1] at hu
     rw[hc.1,hu]
   · have e:j=j / 2*2+1:=by omega
     rw[e] at hu ⊢
     rw[hp.2] at hu
     rw[show off+(j / 2*2+1)=off+j / 2*2+1 by omega,hc.2,hu]
theorem one_prs (qs:List PairL):∀ u∈pcells qs,u.oneCell'=true:=by
 induction qs with
 | nil=>simp[pcells]
 | cons p l ih=>simpa [pcells,Value.oneCell'] using ih
theorem wpList_append_prs {P:Program} {w:World} {ops:Array Oper} {rest:List Oper} {o:Oper} {a:Act} {Q:Exit→Act→World→Prop} (hgd:o.guard=none) (s x:Operand) (t:TypeId)
 (ho:o.op=.call { callee:=.builtin .append,args:=#[s,x],argTypes:=#[t,t] })
 (base:Nat) (e:TypeId) (i:TypeInfo) (z:Value) (bytes:Nat) (ht:P.underlying t=some (.slice e)) (hi:P.info? e=some i) (hz:i.zero=some z)
 (hsize:i.size=2) (hby:i.bytes=bytes) (hzs:z.cells.size=2)
 (v:Value) (n:Nat) (xs:List Value) (hs:a.eval s=v) (hown:w.ownsRow base e 2 v n xs)
 (a2:Option Addr) (qs:List PairL) (m c:Nat) (hm:m=qs.length) (hx:a.eval x=.slice a2 m c) (hc:a2=none→c=0) (hp:IsPairs w a2 qs)
 (h63:n+m≤maxLen) (hbytes:(n+m)*bytes≤140737488355328) (hbase:base≤w.heap.size)
 (h:∀ v' w',w'.ownsRow base e 2 v' (n+m) (xs ++ pcells qs)→w.grownBy w' v.ownBlock→wpList P ops Q rest (a.put o.dst v') w'):wpList P ops Q (o :: rest) a w:=by
 subst hm
 cases a2 with
 | none =>
   have hq:qs=[]:=by
    rcases hp with h | ⟨b,off,h,_⟩
    · exact h
    · cases h
   subst hq
   obtain rfl:=hc rfl
   refine wpList_append_own_none hgd s x t ho base e i 2 ht hi v n xs hs hown hx (h v w ?_ (World.grownBy.refl _ _))
   simpa [pcells] using hown
 | some ad=>exact wpList_append_own w hgd s x t ho base e i z 2 bytes ht hi hz hsize hby hzs (by decide) v n xs hs hown ad qs.length c (pcells qs) hx (pcells_length qs) (flat_prs hp rfl) (one_prs qs) h63 hbytes hbase (fun v' w' h1 h2 _=>h v' w' h1 h2)
set_option maxRecDepth 100000 in
set_option maxHeartbeats 1000000 in
theorem clone_files (b off cap:Nat) (ks:List PairL) (w:World) (hl:ks.length≤1048576) (hs:IsPairs w (some ⟨b,off,none⟩) ks) :
 Calls Try.prog 61 #[.slice (some ⟨b,off,none⟩) ks.length cap] w fun e w'=>∃ (a:Option Addr) (c:Nat),e=.returned (.slice a ks.length c)∧w'.ownsRow w.heap.size 84 2 (.slice a ks.length c) ks.length (pcells ks)∧Below w.heap.size w w':=by
 obtain⟨i0,hi0,hz0,hz1,hz2⟩:=info_parts infoFile
 have B0:Below w.heap.size w (w.alloc (.cells #[] 84)):=(Below.refl _ _).alloc (Nat.le_refl _) _
 have HB0:Hid (Below w.heap.size w (w.alloc (.cells #[] 84))):=B0
 have HO0:=hidOwn (World.ownsRow_lit (e:=84) (size:=2) w #[] 0 (base:=w.heap.size) (Nat.le_refl _) (Nat.zero_le _) rfl)
 have HI0:Hid (IsPairs (w.alloc (.cells #[] 84)) (some ⟨b,off,none⟩) ks):=hs.later B0
 have hnil:∀ W,(binOp .eql 28 (.slice (some ⟨b,off,none⟩) ks.length cap) (.slice none 0 0)).run Try.prog W=.ok (.bool false) W:=fun W=>by first | rfl | (simp[binOp,Op.equal,run_underlying Try.underlying28])
 clear hs B0
 go_enter Try.func61,Try.ntmps61
 go_wp2_with (first
  | (at_builtin; refine wpList_append_prs rfl _ _ 28 rfl w.heap.size 84 i0 (.agg #[.string ⟨#[]⟩, .string ⟨#[]⟩]) 32 Try.underlying28 hi0 hz0 hz1 hz2 rfl (.slice (some ⟨w.heap.size, 0, none⟩) 0 0) 0 [] rfl HO0.out (some ⟨b, off, none⟩) ks ks.length cap rfl rfl (by simp) HI0.out (by unfold maxLen; omega) (by omega) (by simp) ?_; intro v3 w3 o3 g3; obtain ⟨a3, m3, c3, rfl⟩ := own_slice2 o3
     have O3:Hid (w3.ownsRow w.heap.size 84 2 (.slice a3 m3 c3) ks.length (pcells ks)):=(by rw[Hid];simpa using o3)
     have B3:Hid (Below w.heap.size w w3):=HB0.out.grown g3 HB0.out.size (fun q hq=>(HO0.out.lt q hq).1)
     clear o3 g3))
 obtain⟨hm3,_,_⟩:=isPairs_own O3.out
 subst hm3
 first | go_ret | (go_wp2;go_ret)
 exact⟨a3,c3,rfl,O3.out,B3.out⟩
set_option maxRecDepth 100000 in
theorem clone_files0 (w:World):Calls Try.prog 61 #[.slice none 0 0] w fun e w'=>e=.returned (.slice none 0 0)∧w'=w:=by
 have hnil:∀ W,(binOp .eql 28 (.slice none 0 0) (.slice none 0 0)).run Try.prog W=.ok (.bool true) W:=fun W=>by first | rfl | (simp[binOp,Op.equal,run_underlying Try.underlying28])
 go_enter Try.func61,Try.ntmps61
 go_wp2
 go_ret
 exact⟨rfl,rfl⟩
theorem clone_filesN (a:Option Addr) (cap:Nat) (ks:List PairL) (w:World) (hl:ks.length≤1048576) (hca:a=none→cap=0) (haa:a=none∨∃ b off,a=some ⟨b,off,none⟩) (hs:IsPairs w a ks) :
 Calls Try.prog 61 #[.slice a ks.length cap] w fun e w'=>∃ (a:Option Addr) (c:Nat),e=.returned (.slice a ks.length c)∧w'.ownsRow w.heap.size 84 2 (.slice a ks.length c) ks.length (pcells ks)∧Below w.heap.size w w':=by
 rcases haa with rfl | ⟨b,off,rfl⟩
 · have hk:ks=[]:=by
    rcases hs with h | ⟨b,off,h,_⟩
    · exact h
    · cases h
   subst hk
   obtain rfl:=hca rfl
   refine (clone_files0 w).mono ?_
   rintro e w' ⟨rfl,rfl⟩
   exact⟨none,0,rfl,World.ownsRow_nil _ _ _ _,Below.refl _ _⟩
 · exact clone_files b off cap ks w hl hs
theorem flat_dops {w:World} {a:Option Addr} {ad:Addr} {qs:List DOpL} (h:IsDOps w a qs) (ha:a=some ad):∀ j u,(dcells qs)[j]? = some u→w.cell? (ad.add j)=some u:=by
 intro j u hu
 rcases src_dops h with h0 | ⟨ad2,h1,h2⟩
 · have:qs=[]:=List.length_eq_zero_iff.1 h0
   subst this
   simp[dcells] at hu
 · rw[ha] at h1
   cases h1
   exact h2 j u hu
theorem own_slice4 {w:World} {B e n:Nat} {v:Value} {xs:List Value} (h:w.ownsRow B e 4 v n xs):∃ a m c,v=.slice a m c:=by
 rcases h.2 with ⟨h',h0⟩ | ⟨g,cap,cur,h',_⟩
 · exact⟨_,_,_,h'⟩
 · exact⟨_,_,_,h'⟩
theorem wpList_append_dops {P:Program} {w:World} {ops:Array Oper} {rest:List Oper} {o:Oper} {a:Act} {Q:Exit→Act→World→Prop} (hgd:o.guard=none) (s x:Operand) (t:TypeId)
 (ho:o.op=.call { callee:=.builtin .append,args:=#[s,x],argTypes:=#[t,t] })
 (base:Nat) (e:TypeId) (i:TypeInfo) (z:Value) (bytes:Nat) (ht:P.underlying t=some (.slice e)) (hi:P.info? e=some i) (hz:i.zero=some z)
 (hsize:i.size=4) (hby:i.bytes=bytes) (hzs:z.cells.size=4)
 (v:Value) (n:Nat) (xs:List Value) (hs:a.eval s=v) (hown:w.ownsRow base e 4 v n xs)
 (a2:Option Addr) (qs:List DOpL) (m c:Nat) (hm:m=qs.length) (hx:a.eval x=.slice a2 m c) (hc:a2=none→c=0) (hp:IsDOps w a2 qs)
 (h63:n+m≤maxLen) (hbytes:(n+m)*bytes≤140737488355328) (hbase:base≤w.heap.size)
 (h:∀ v' w',w'.ownsRow base e 4 v' (n+m) (xs ++ dcells qs)→w.grownBy w' v.ownBlock→wpList P ops Q rest (a.put o.dst v') w'):wpList P ops Q (o :: rest) a w:=by
 subst hm
 cases a2 with
 | none =>
   have hq:qs=[]:=by
    rcases hp with h | ⟨b,off,h,_⟩
    · exact h
    · cases h
   subst hq
   obtain rfl:=hc rfl
   refine wpList_append_own_none hgd s x t ho base e i 4 ht hi v n xs hs hown hx (h v w ?_ (World.grownBy.refl _ _))
   simpa [dcells] using hown
 | some ad=>exact wpList_append_own w hgd s x t ho base e i z 4 bytes ht hi hz hsize hby hzs (by decide) v n xs hs hown ad qs.length c (dcells qs) hx (dcells_length qs) (flat_dops hp rfl) (dcells_one qs) h63 hbytes hbase (fun v' w' h1 h2 _=>h v' w' h1 h2)
set_option maxRecDepth 100000 in
set_option maxHeartbeats 1000000 in
theorem clone_dops (b off cap:Nat) (ks:List DOpL) (w:World) (hl:ks.length≤1048576) (hs:IsDOps w (some ⟨b,off,none⟩) ks) :
 Calls Try.prog 84 #[.slice (some ⟨b,off,none⟩) ks.length cap] w fun e w'=>∃ (a:Option Addr) (c:Nat),e=.returned (.slice a ks.length c)∧w'.ownsRow w.heap.size 40 4 (.slice a ks.length c) ks.length (dcells ks)∧Below w.heap.size w w':=by
 obtain⟨i0,hi0,hz0,hz1,hz2⟩:=info_parts infoDOp
 have B0:Below w.heap.size w (w.alloc (.cells #[] 40)):=(Below.refl _ _).alloc (Nat.le_refl _) _
 have HB0:Hid (Below w.heap.size w (w.alloc (.cells #[] 40))):=B0
 have HO0:=hidOwn (World.ownsRow_lit (e:=40) (size:=4) w #[] 0 (base:=w.heap.size) (Nat.le_refl _) (Nat.zero_le _) rfl)
 have HI0:Hid (IsDOps (w.alloc (.cells #[] 40)) (some ⟨b,off,none⟩) ks):=hs.later B0
 have hnil:∀ W,(binOp .eql 29 (.slice (some ⟨b,off,none⟩) ks.length cap) (.slice none 0 0)).run Try.prog W=.ok (.bool false) W:=fun W=>by first | rfl | (simp[binOp,Op.equal,run_underlying Try.underlying29])
 clear hs B0
 go_enter Try.func84,Try.ntmps84
 go_wp2_with (first
  | (at_builtin; refine wpList_append_dops rfl _ _ 29 rfl w.heap.size 40 i0 (.agg #[.int .i64 0, .string ⟨#[]⟩, .string ⟨#[]⟩, .string ⟨#[]⟩]) 56 Try.underlying29 hi0 hz0 hz1 hz2 rfl (.slice (some ⟨w.heap.size, 0, none⟩) 0 0) 0 [] rfl HO0.out (some ⟨b, off, none⟩) ks ks.length cap rfl rfl (by simp) HI0.out (by unfold maxLen; omega) (by omega) (by simp) ?_; intro v3 w3 o3 g3; obtain ⟨a3, m3, c3, rfl⟩ := own_slice4 o3
     have O3:Hid (w3.ownsRow w.heap.size 40 4 (.slice a3 m3 c3) ks.length (dcells ks)):=(by rw[Hid];simpa using o3)
     have B3:Hid (Below w.heap.size w w3):=HB0.out.grown g3 HB0.out.size (fun q hq=>(HO0.out.lt q hq).1)
     clear o3 g3))
 obtain⟨hm3,_,_⟩:=isDOps_own O3.out
 subst hm3
 first | go_ret | (go_wp2;go_ret)
 exact⟨a3,c3,rfl,O3.out,B3.out⟩
set_option maxRecDepth 100000 in
theorem clone_dops0 (w:World):Calls Try.prog 84 #[.slice none 0 0] w fun e w'=>e=.returned (.slice none 0 0)∧w'=w:=by
 have hnil:∀ W,(binOp .eql 29 (.slice none 0 0) (.slice none 0 0)).run Try.prog W=.ok (.bool true) W:=fun W=>by first | rfl | (simp[binOp,Op.equal,run_underlying Try.underlying29])
 go_enter Try.func84,Try.ntmps84
 go_wp2
 go_ret
 exact⟨rfl,rfl⟩
theorem clone_dopsN (a:Option Addr) (cap:Nat) (ks:List DOpL) (w:World) (hl:ks.length≤1048576) (hca:a=none→cap=0) (haa:a=none∨∃ b off,a=some ⟨b,off,none⟩) (hs:IsDOps w a ks) :
 Calls Try.prog 84 #[.slice a ks.length cap] w fun e w'=>∃ (a:Option Addr) (c:Nat),e=.returned (.slice a ks.length c)∧w'.ownsRow w.heap.size 40 4 (.slice a ks.length c) ks.length (dcells ks)∧Below w.heap.size w w':=by
 rcases haa with rfl | ⟨b,off,rfl⟩
 · have hk:ks=[]:=by
    rcases hs with h | ⟨b,off,h,_⟩
    · exact h
    · cases h
   subst hk
   obtain rfl:=hca rfl
   refine (clone_dops0 w).mono ?_
   rintro e w' ⟨rfl,rfl⟩
   exact⟨none,0,rfl,World.ownsRow_nil _ _ _ _,Below.refl _ _⟩
 · exact clone_dops b off cap ks w hl hs
end Go.Proofs.Ytlllkdioojjaeaa
