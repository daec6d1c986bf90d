/-
 Texts that are laid as one: Step, SStep, Way, MathGat, GatM.
-/
import Derived.Test.YtiadimhoolekbaaGreatDoorGetAll
import Derived.Test.YtiadimhoolekbaaGreatDoorSMades
import Derived.Test.YtiadimhoolekbaaGreatDoorTrieAll
namespace Go.Proofs.YtiadimhoolekbaaGreatDoor
open Go.RowKit
set_option linter.unusedVariables false
set_option maxHeartbeats 1000000
set_option maxRecDepth 100000
theorem za5v (n:Nat) (l:List UInt8) (h:zo l=true):zo (l.drop n)=true:=by
 simp only[zo,List.all_eq_true] at h ⊢
 exact fun x hx=>h x (List.mem_of_mem_drop hx)
def zkl (w0 w:World) (o:Option (List UInt8)) (e:Ending) (w':World):Prop:=(match o with
 | none=>e=.returned (.tuple #[.agg #[.string ⟨#[]⟩,.int .i64 0,.string ⟨#[]⟩,.slice none 0 0,.string ⟨#[]⟩],.bool false])
 | some t=>∃ (a:Option Addr) (c:Nat),e=.returned (.tuple #[.agg #[.string ⟨t.toArray⟩,.int .i64 (nodeAt t).k,.string ⟨(nodeAt t).p.toArray⟩,.slice a (nodeAt t).ls.length c,.string ⟨(nodeAt t).v.toArray⟩],.bool true])∧zw w0 a (nodeAt t).ls∧(za6 t).isSome=true)∧Below w.heap.size w w'
theorem zw7 (mb : Nat) (ps : List za) (h : List UInt8) (w0 w : World) (hst : zu ps = true) (hhl : h.length ≤ 1048576) (hM : HeldM w0 mb ps ps.length) (hB : Below w0.heap.size w0 w) :
 Calls Tryz.prog 54 #[.map (some mb),.string ⟨h.toArray⟩] w fun e w'=>zkl w0 w (zh ps h) e w':=by
 by_cases h32:h.length=32
 · have fin : ∀ (D : DataW Value) (u0 : ByteArray) (u1 : Int) (u2 : ByteArray) (u3 : Option Addr) (m3 c3 : Nat) (u4 : ByteArray) (ok : Bool), w.ownsMap Tryz.prog 99 uvR mb ps.length D → Maps.has D (zn h) = ok → (D.atKey (zn h) (.held (.agg #[.string ⟨#[]⟩, .int .i64 0, .string ⟨#[]⟩, .slice none 0 0, .string ⟨#[]⟩])) = .held (.agg #[.string u0, .int .i64 u1, .string u2, .slice u3 m3 c3, .string u4])) →
    Calls Tryz.prog 54 #[.map (some mb),.string ⟨h.toArray⟩] w fun e w'=>e=.returned (.tuple #[.agg #[.string u0,.int .i64 u1,.string u2,.slice u3 m3 c3,.string u4],.bool ok])∧Below w.heap.size w w':=by
    intro D u0 u1 u2 u3 m3 c3 u4 ok hown h1 h2
    have K:=znb h (w.alloc (.cells #[.string ⟨#[]⟩,.int .i64 0,.string ⟨#[]⟩,.slice none 0 0,.string ⟨#[]⟩] 97)) h32
    have B0:Hid (Below w.heap.size w (w.alloc (.cells #[.string ⟨#[]⟩,.int .i64 0,.string ⟨#[]⟩,.slice none 0 0,.string ⟨#[]⟩] 97))):=(Below.refl _ _).alloc (Nat.le_refl _) _
    have Q0:Hid ((w.alloc (.cells #[.string ⟨#[]⟩,.int .i64 0,.string ⟨#[]⟩,.slice none 0 0,.string ⟨#[]⟩] 97)).heap[w.heap.size]? = some (.cells #[.string ⟨#[]⟩,.int .i64 0,.string ⟨#[]⟩,.slice none 0 0,.string ⟨#[]⟩] 97 (0,0))):=heap_alloc_new w _
    have L0:Hid (w.heap.size<(w.alloc (.cells #[.string ⟨#[]⟩,.int .i64 0,.string ⟨#[]⟩,.slice none 0 0,.string ⟨#[]⟩] 97)).heap.size):=by rw[Hid];simp
    have H1:Hid (Maps.has D (zn h)=ok):=h1
    have H2:Hid (D.atKey (zn h) (.held (.agg #[.string ⟨#[]⟩,.int .i64 0,.string ⟨#[]⟩,.slice none 0 0,.string ⟨#[]⟩]))=.held (.agg #[.string u0,.int .i64 u1,.string u2,.slice u3 m3 c3,.string u4])):=h2
    have HO:Hid (∀ W,Below w.heap.size w W→W.ownsMap Tryz.prog 99 uvR mb ps.length D):=fun W hW=>hown.kept (zc2 hW none) (by simp)
    have HK:Hid (keyOf Tryz.prog 99 (.agg (zg h).toArray)=some (zn h)):=zf9 h h32
    obtain⟨cs,hcs⟩:∃ cs,cs=(zg h).toArray:=⟨_,rfl⟩
    rw[←hcs] at K HK
    clear h1 h2 hown hst hcs hM hB
    go_enter Tryz.func54,Tryz.ntmps54
    go_wp2_with fail
    refine K.mono ?_
    rintro e w1 ⟨rfl,b1⟩
    have B1:Hid (Below w.heap.size w w1):=B0.out.trans (b1.mono B0.out.size)
    have M1:Hid (w1.ownsMap Tryz.prog 99 uvR mb ps.length D):=HO.out _ B1.out
    have Q1:Hid (w1.heap[w.heap.size]? = some (.cells #[.string ⟨#[]⟩,.int .i64 0,.string ⟨#[]⟩,.slice none 0 0,.string ⟨#[]⟩] 97 (0,0))):=(b1.block _ L0.out).trans Q0.out
    clear HO B0 Q0 b1 L0
    go_wp2_with (first
     | (at_lookup; refine wpList_lookup_own_ok _ rfl _ _ 49 rfl 99 97 zda Tryz.underlying49 uvR (zi7 _) (.held (.agg #[.string ⟨#[]⟩, .int .i64 0, .string ⟨#[]⟩, .slice none 0 0, .string ⟨#[]⟩])) [] rfl mb ps.length D rfl M1.out _ (zn h) rfl HK.out ?_; intro vv qs hv; rw [H2.out] at hv; rw [H1.out]; obtain rfl := zi8 hv; clear hv
        have Q2:Hid ((w1.alloc (.cells #[.string u0,.int .i64 u1,.string u2,.slice u3 m3 c3,.string u4] 97)).heap[w.heap.size]? = some (.cells #[.string ⟨#[]⟩,.int .i64 0,.string ⟨#[]⟩,.slice none 0 0,.string ⟨#[]⟩] 97 (0,0))):=(Below.heap_alloc _ _ _ (lt_of_block Q1.out)).trans Q1.out
        have B2:Hid (Below w.heap.size w (w1.alloc (.cells #[.string u0,.int .i64 u1,.string u2,.slice u3 m3 c3,.string u4] 97))):=B1.out.alloc B1.out.size _
        obtain⟨q0,q1,q2,q3,q4,qf⟩:=zd2 Q2.out
        have qf0:=qf 0
        have qf1:=qf 1
        have qf2:=qf 2
        have qf3:=qf 3
        have qf4:=qf 4
        clear qf)
     | go_in)
    exact bodyPost_ret (v:=.tuple #[.agg #[.string u0,.int .i64 u1,.string u2,.slice u3 m3 c3,.string u4],.bool ok]) (zc3 rfl _ _ w.heap.size 97 _ _ rfl (zwo _ _ _ _ _ Q2.out) Tryz.underlying97 rfl (by kernel_rfl) (.bool ok) rfl) rfl ⟨rfl,zwp B2.out (Nat.le_refl _) _ _ _ _ _⟩
   obtain⟨D,hD,hcase⟩:=zoz hst hM h h32
   rcases hcase with ⟨hf,h1,h2⟩ | ⟨t,v,hf,hr,h1,h2,a,m,c,rfl,ho⟩
   · rw[hf]
     exact (fin D _ _ _ _ _ _ _ _ (hD.kept (zc2 hB none) (by simp)) h1 (h2 _)).mono fun e w' h=>h
   · rw[hf]
     obtain⟨rfl,_,hi⟩:=zch ho
     exact (fin D _ _ _ _ _ _ _ _ (hD.kept (zc2 hB none) (by simp)) h1 (h2 _)).mono fun e w' h=>⟨⟨a,c,h.1,hi,hr⟩,h.2⟩
 · have hf:=zwn ps hst h h32
   rw[hf]
   have h32':¬ (h.length:Int)=32:=by omega
   clear hf hst hM hB
   go_enter Tryz.func54,Tryz.ntmps54
   go_wp2
   exact bodyPost_ret (v:=.tuple #[.agg #[.string ⟨#[]⟩,.int .i64 0,.string ⟨#[]⟩,.slice none 0 0,.string ⟨#[]⟩],.bool false]) (zc3 rfl _ _ w.heap.size 97 _ _ rfl (heap_alloc_new w _) Tryz.underlying97 rfl (by kernel_rfl) (.bool false) rfl) rfl ⟨rfl,(Below.refl _ _).alloc (Nat.le_refl _) _⟩
theorem zw8 (ps:List za) (hm:∀ p∈ps,p.1.length≤1048576∧p.2.length≤1048576) (h t:List UInt8) (hf:zh ps h=some t):t.length≤1048576:=by
 unfold zh at hf
 rw[Option.map_eq_some_iff] at hf
 obtain⟨p,hp,rfl⟩:=hf
 exact (hm p (List.mem_of_find?_eq_some hp)).2
theorem zw9 {w w':World} {t:List UInt8} {e:Ending} (h:zdg w (za6 t) e w'):∃ (a:Option Addr) (c:Nat),e=.returned (.tuple #[.agg #[.int .i64 (nodeAt t).k,.string ⟨(nodeAt t).p.toArray⟩,.slice a (nodeAt t).ls.length c,.string ⟨(nodeAt t).v.toArray⟩],.bool (za6 t).isSome])∧w'.ownsRow w.heap.size 9 1 (.slice a (nodeAt t).ls.length c) (nodeAt t).ls.length (zk (nodeAt t).ls)∧Below w.heap.size w w':=by
 obtain⟨a,m,c,he,ho,hb⟩:=h
 obtain⟨hm,_,_⟩:=zch ho
 subst hm
 exact⟨a,c,he,ho,hb⟩
def ownP (full v:List UInt8):List za:=if v=[] then [] else [(pack full,v)]
def zc9 (k:Int) (full:List UInt8) (i:Nat):List UInt8:=if k=3 then full ++ [UInt8.ofNat i] else full
def za7 (g:List UInt8→List UInt8→Option (List za)) (k:Int) (full:List UInt8) (ls:List (List UInt8)):Nat→Option (List za)
 | 0=>some []
 | j + 1 => match za7 g k full ls j with
   | none=>none
   | some l=>if ls.getD j []=[] then some l else (g (ls.getD j []) (zc9 k full j)).map (l ++ ·)
def zb2 (full v:List UInt8):Bool:=decide (full.length≤24) && (decide (v=[]) || decide (full.length % 2=0))
def atF (find:List UInt8→Option (List UInt8)):Nat→List UInt8→List UInt8→Option (List za)
 | 0,_,_=>none
 | f + 1, h, path => match find h with
   | none=>none
   | some t=>if zb2 (path ++ (nodeAt t).p) (nodeAt t).v=true then (za7 (atF find f) (nodeAt t).k (path ++ (nodeAt t).p) (nodeAt t).ls (nodeAt t).ls.length).map (ownP (path ++ (nodeAt t).p) (nodeAt t).v ++ ·) else none
def zb3 (r:Option (List za)):Option (List za):=r.bind fun l=>if l.length≤60 then some l else none
theorem zi2 (find:List UInt8→Option (List UInt8)) (f:Nat) (h path:List UInt8) (hf:find h=none):atF find f h path=none:=by
 cases f with
 | zero=>rfl
 | succ f=>simp only[atF,hf]
theorem zfw (find:List UInt8→Option (List UInt8)) (f:Nat) (h path t:List UInt8) (k:Int) (p v:List UInt8) (ls:List (List UInt8)) (hf:find h=some t) (hn:nodeAt t=⟨k,p,ls,v⟩) :
 atF find (f+1) h path=if zb2 (path ++ p) v=true then (za7 (atF find f) k (path ++ p) ls ls.length).map (ownP (path ++ p) v ++ ·) else none:=by
 simp only[atF,hf,hn]
theorem zop (find:List UInt8→Option (List UInt8)) (f:Nat) (h path:List UInt8) (hp:24<path.length):atF find f h path=none:=by
 cases f with
 | zero=>rfl
 | succ f =>
   cases hf:find h with
   | none=>exact zi2 find _ h path hf
   | some t =>
     simp only[atF,hf]
     rw[if_neg]
     simp only[zb2,Bool.and_eq_true,decide_eq_true_eq,List.length_append]
     omega
theorem zkm {g:List UInt8→List UInt8→Option (List za)} {k:Int} {full:List UInt8} {ls:List (List UInt8)} {j:Nat} {l:List za} (h:za7 g k full ls j=some l) (hk:ls.getD j []=[]):za7 g k full ls (j+1)=some l:=by
 simp only[za7,h,if_pos hk]
theorem zfc {g:List UInt8→List UInt8→Option (List za)} {k:Int} {full:List UInt8} {ls:List (List UInt8)} {j:Nat} {l:List za} (h:za7 g k full ls j=some l) (hk:ls.getD j []≠[]):za7 g k full ls (j+1)=(g (ls.getD j []) (zc9 k full j)).map (l ++ ·):=by
 simp only[za7,h,if_neg hk]
theorem zoq {g:List UInt8→List UInt8→Option (List za)} {k:Int} {full:List UInt8} {ls:List (List UInt8)} {j:Nat} (h:za7 g k full ls j=none):∀ m,j≤m→za7 g k full ls m=none
 | 0, hm => by obtain rfl : j = 0 := by omega
               exact h
 | m + 1, hm => by
   by_cases e:j=m+1
   · rw[←e];exact h
   · simp only[za7,zoq h m (by omega)]
theorem zor {g:List UInt8→List UInt8→Option (List za)} {k:Int} {full:List UInt8} {ls:List (List UInt8)} {j:Nat} {l:List za} (h:za7 g k full ls j=some l):∀ m,j≤m→∀ r,za7 g k full ls m=some r→l.length≤r.length
 | 0, hm, r, hr => by
   obtain rfl:j=0:=by omega
   rw[h] at hr;cases hr;exact Nat.le_refl _
 | m + 1, hm, r, hr => by
   by_cases e:j=m+1
   · subst e;rw[h] at hr;cases hr;exact Nat.le_refl _
   · cases hk:za7 g k full ls m with
     | none=>simp only[za7,hk] at hr;cases hr
     | some l2 =>
       have h1:=zor h m (by omega) l2 hk
       simp only[za7,hk] at hr
       split at hr
       · cases hr;exact h1
       · rw[Option.map_eq_some_iff] at hr
         obtain⟨x,_,rfl⟩:=hr
         simp only[List.length_append];omega
def Lost (r:Option (List za)) (n:Nat):Prop:=r=none∨∃ l,r=some l∧60<n+l.length
theorem lost_cap {r:Option (List za)}:Lost r 0↔zb3 r=none:=by
 cases r with
 | none=>simp[Lost,zb3]
 | some l=>simp[Lost,zb3]
theorem zwa {r:Option (List za)} {o:List za} {n:Nat} (h:Lost r (n+o.length)):Lost (r.map (o ++ ·)) n:=by
 rcases h with rfl | ⟨l,rfl,h⟩
 · exact .inl rfl
 · exact .inr ⟨_,rfl,by simp only[List.length_append];omega⟩
theorem zwb {g:List UInt8→List UInt8→Option (List za)} {k:Int} {full:List UInt8} {ls:List (List UInt8)} {j n:Nat} {l:List za} (h:za7 g k full ls j=some l) (hj:j<ls.length) (hk:ls.getD j []≠[]) (hl:Lost (g (ls.getD j []) (zc9 k full j)) (n+l.length)):Lost (za7 g k full ls ls.length) n:=by
 have h1:=zfc h hk
 rcases hl with e | ⟨x,e,hx⟩
 · rw[e] at h1
   exact .inl (zoq h1 _ hj)
 · rw[e] at h1
   cases hr:za7 g k full ls ls.length with
   | none=>exact .inl rfl
   | some r =>
     have:=zor h1 _ hj r hr
     simp only[List.length_append] at this
     exact .inr ⟨r,rfl,by omega⟩
theorem zwc (find:List UInt8→Option (List UInt8)) (f:Nat) (k:Int) (full y:List UInt8) (hy:y.length=32) (hf:24<full.length):za7 (atF find f) k full [y] 1=none:=by
 have h0:za7 (atF find f) k full [y] 0=some []:=rfl
 have hne : [y].getD 0 []≠[]:=fun e=>by
  have:y=[]:=e
  subst this
  simp at hy
 rw[zfc h0 hne,zop find f _ _ (by
  unfold zc9
  split
  · simp;omega
  · exact hf)]
 rfl
theorem zos {r:Option (List za)} {a b:Nat} (h:Lost r a) (hab:a≤b):Lost r b:=by
 rcases h with e | ⟨l,e,h⟩
 · exact .inl e
 · exact .inr ⟨l,e,by omega⟩
theorem zkn {g:List UInt8→List UInt8→Option (List za)} {k:Int} {full:List UInt8} {ls:List (List UInt8)} {j n:Nat} {l o:List za} (h:za7 g k full ls j=some l) (hj:j<ls.length) (hk:ls.getD j []≠[]) (hl:Lost (g (ls.getD j []) (zc9 k full j)) (n+o.length+l.length)):Lost ((za7 g k full ls ls.length).map (o ++ ·)) n :=
 zwa (zwb h hj hk hl)
theorem zwd {r:Option (List za)} {l:List za} (h:r=some l) (hl:l.length≤60):zb3 r=some l:=by subst h;simp[zb3,hl]
theorem ze2 {r:Option (List za)} {l:List za} (h:zb3 r=some l):r=some l∧l.length≤60:=by
 unfold zb3 at h
 rw[Option.bind_eq_some_iff] at h
 obtain⟨x,rfl,hx⟩:=h
 split at hx
 · cases hx;exact⟨rfl,by assumption⟩
 · cases hx
theorem zwe (full v:List UInt8):(ownP full v).length≤1:=by unfold ownP;split <;> simp
theorem zko {g:List UInt8→List UInt8→Option (List za)} {k:Int} {full:List UInt8} {ls:List (List UInt8)} {P:za→Prop} (hg:∀ h p l,g h p=some l→∀ e∈l,P e):∀ j l,za7 g k full ls j=some l→∀ e∈l,P e
 | 0,l,h,e,he=>by cases h;cases he
 | j + 1, l, h, e, he => by
   cases hk:za7 g k full ls j with
   | none=>simp only[za7,hk] at h;cases h
   | some l2 =>
     simp only[za7,hk] at h
     split at h
     · rw[←Option.some.inj h] at he;exact zko hg j l2 hk e he
     · rw[Option.map_eq_some_iff] at h
       obtain⟨x,hx,rfl⟩:=h
       rcases List.mem_append.1 he with h | h
       · exact zko hg j l2 hk e h
       · exact hg _ _ _ hx e h
theorem zkp (find:List UInt8→Option (List UInt8)) (hok:∀ h t,find h=some t→(nodeAt t).ok=true):∀ f h path l,atF find f h path=some l→∀ e∈l,e.1.length≤12∧e.2.length≤60
 | 0,h,path,l,hl,e,he=>by cases hl
 | f + 1, h, path, l, hl, e, he => by
   cases hf:find h with
   | none=>rw[zi2 find _ h path hf] at hl;cases hl
   | some t =>
     have ho:=zkw _ (hok h t hf)
     rw[zfw find f h path t (nodeAt t).k (nodeAt t).p (nodeAt t).v (nodeAt t).ls hf rfl] at hl
     by_cases hfu:zb2 (path ++ (nodeAt t).p) (nodeAt t).v=true
     · rw [if_pos hfu] at hl
       simp only[zb2,Bool.and_eq_true,Bool.or_eq_true,decide_eq_true_eq] at hfu
       rw[Option.map_eq_some_iff] at hl
       obtain⟨x,hx,rfl⟩:=hl
       rcases List.mem_append.1 he with h | h
       · unfold ownP at h
         split at h
         · cases h
         · rename_i hv
           simp only[List.mem_singleton] at h
           subst h
           have h2:=hfu.2.resolve_left hv
           have hp:=zl8 _ h2
           refine⟨?_,ho.2.2.1⟩
           show (pack _).length≤12
           rw[hp];omega
       · exact zko (fun h p l hl=>zkp find hok f h p l hl) _ x hx e h
     · rw[if_neg hfu] at hl
       cases hl
def zag (ps:List za) (root:List UInt8):Option (List za) :=
 if zu ps=true then (if root=emptyL then some [] else (atF (zh ps) 26 root []).bind fun l=>if zy l=true∧zab l=root then some l else none) else none
theorem zot {ps:List za} {root:List UInt8} (h:¬ zu ps=true):zag ps root=none:=by unfold zag;rw[if_neg h]
theorem zkq {ps:List za} {root:List UInt8} (h:zu ps=true) (he:root=emptyL):zag ps root=some []:=by unfold zag;rw[if_pos h,if_pos he]
theorem zou {ps:List za} {root:List UInt8} (h:zu ps=true) (he:¬ root=emptyL) (hl:Lost (atF (zh ps) 26 root []) 0):zag ps root=none:=by
 unfold zag;rw[if_pos h,if_neg he]
 rcases hl with e | ⟨l,e,hn⟩
 · rw[e];rfl
 · rw[e]
   show (if zy l=true∧zab l=root then some l else none)=none
   rw[if_neg]
   rintro⟨h1,_⟩
   simp only[zy,Bool.and_eq_true] at h1
   have:=(zez l h1.1).1
   omega
theorem zkr {ps:List za} {root:List UInt8} {l:List za} (h:zu ps=true) (he:¬ root=emptyL) (hl:atF (zh ps) 26 root []=some l):zag ps root=if zy l=true∧zab l=root then some l else none:=by
 unfold zag;rw[if_pos h,if_neg he,hl];rfl
structure GEnv (w:World) (bn bp bg mb:Nat) (v:Value) (acc:List za) (lim:Nat):Prop where
 nodes:w.heap[bn]? = some (.cells #[.map (some mb)] 49 (0,0))
 box:w.heap[bp]? = some (.cells #[v] 32 (0,0))
 self:w.heap[bg]? = some (.cells #[.func (.func 53) #[] #[.pointer (some ⟨bn,0,none⟩),.pointer (some ⟨bp,0,none⟩),.pointer (some ⟨bg,0,none⟩)]] 101 (0,0))
 row:w.ownsRow lim 61 2 v acc.length (zc acc)
theorem zgt {w w':World} {base e size n:Nat} {v:Value} {xs:List Value} (h:w.ownsRow base e size v n xs) (hk:∀ q,v.ownBlock=some q→w'.heap[q]? = w.heap[q]?):w'.ownsRow base e size v n xs:=by
 refine⟨h.1,?_⟩
 rcases h.2 with hn | ⟨g,cap,cur,rfl,hb,hgg,rest⟩
 · exact .inl hn
 · exact .inr ⟨g,cap,cur,rfl,hb,(hk g rfl).trans hgg,rest⟩
theorem zwf {w:World} {b:Nat} {u v:Value} {t:TypeId} (h:w.heap[b]? = some (.cells #[u] t (0,0))):(w.setCell ⟨b,0,none⟩ v).heap[b]? = some (.cells #[v] t (0,0)):=by
 have hlt:=lt_of_block h
 have h':w.heap[b]=.cells #[u] t (0,0):=by simpa [Array.getElem?_eq_getElem hlt] using h
 show (w.heap.modify b _)[b]? = _
 rw[Array.getElem?_eq_getElem (by simpa using hlt),Array.getElem_modify_self,h']
 rfl
theorem GEnv.later {w w':World} {bn bp bg mb lim:Nat} {v:Value} {acc:List za} (h:GEnv w bn bp bg mb v acc lim) (h1:w'.heap[bn]? = w.heap[bn]?) (h2:w'.heap[bp]? = w.heap[bp]?) (h3:w'.heap[bg]? = w.heap[bg]?) (hk:∀ q,v.ownBlock=some q→w'.heap[q]? = w.heap[q]?):GEnv w' bn bp bg mb v acc lim :=
 ⟨h1.trans h.nodes,h2.trans h.box,h3.trans h.self,zgt h.row hk⟩
theorem GEnv.below {w w':World} {bn bp bg mb lim:Nat} {v:Value} {acc:List za} (h:GEnv w bn bp bg mb v acc lim) (hb:Below w.heap.size w w'):GEnv w' bn bp bg mb v acc lim :=
 h.later (hb.block _ (lt_of_block h.nodes)) (hb.block _ (lt_of_block h.box)) (hb.block _ (lt_of_block h.self)) fun q hq=>hb.block q (h.row.lt q hq).2
structure GKept (w0 w:World) (bp:Nat) (v0 v:Value) (wr:World):Prop where
 below:Below w0.heap.size w0 wr
 size:w.heap.size≤wr.heap.size
 own:∀ b,v.ownBlock=some b→v0.ownBlock=some b∨w.heap.size≤b
 kept:∀ b,b<w.heap.size→b≠bp→v0.ownBlock≠some b→wr.heap[b]? = w.heap[b]?
theorem GKept.start {w0 w:World} {bp:Nat} {v:Value} (h:Below w0.heap.size w0 w):GKept w0 w bp v v w:=⟨h,Nat.le_refl _,fun b h=>.inl h,fun b _ _ _=>rfl⟩
theorem GKept.on {w0 w wr w3:World} {bp:Nat} {v0 v:Value} (h:GKept w0 w bp v0 v wr) (hb:Below wr.heap.size wr w3) (h0:w0.heap.size≤w.heap.size):GKept w0 w bp v0 v w3 :=
 ⟨h.below.trans (hb.mono (Nat.le_trans h0 h.size)),Nat.le_trans h.size hb.size,h.own,fun b h1 h2 h3=>(hb.block b (Nat.lt_of_lt_of_le h1 h.size)).trans (h.kept b h1 h2 h3)⟩
theorem GKept.trans {w0 w wr w3:World} {bp:Nat} {v0 v v3:Value} (h:GKept w0 w bp v0 v wr) (h2:GKept w0 wr bp v v3 w3):GKept w0 w bp v0 v3 w3:=by
 have hs:=h.size
 refine⟨h2.below,Nat.le_trans hs h2.size,fun b hb=>?_,fun b h1 hne hv=>(h2.kept b (by omega) hne fun e=>?_).trans (h.kept b h1 hne hv)⟩
 · rcases h2.own b hb with e | e
   · exact h.own b e
   · exact .inr (by omega)
 · rcases h.own b e with e | e
   · exact hv e
   · omega
def zks (w0 w:World) (bn bp bg mb lim:Nat) (v:Value) (acc:List za) (res:Option (List za)) (r:Ending) (w':World):Prop :=
 (∃ l v',r=.returned (.bool true)∧res=some l∧GEnv w' bn bp bg mb v' (acc ++ l) lim∧acc.length+l.length≤61∧GKept w0 w bp v v' w')∨(r=.returned (.bool false)∧Lost res acc.length∧Below w0.heap.size w0 w')
def zi3 (w0:World) (bn bp bg mb lim:Nat) (ps:List za) (f:Nat):Prop :=
 ∀ (h path : List UInt8) (w : World) (v : Value) (acc : List za), h.length ≤ 1048576 → 26 ≤ f + path.length → path.length ≤ 25 → zo path = true → Below w0.heap.size w0 w → GEnv w bn bp bg mb v acc lim → acc.length ≤ 61 →
   Calls Tryz.prog 53 #[.string ⟨h.toArray⟩,.string ⟨path.toArray⟩,.pointer (some ⟨bn,0,none⟩),.pointer (some ⟨bp,0,none⟩),.pointer (some ⟨bg,0,none⟩)] w fun r w'=>zks w0 w bn bp bg mb lim v acc (atF (zh ps) f h path) r w'
theorem zwg {w0 w:World} {bn bp bg mb lim:Nat} {v:Value} {acc:List za} {res:Option (List za)} {r:Ending} {w':World} (h:zks w0 w bn bp bg mb lim v acc res r w') :
 ∃ ok:Bool,r=.returned (.bool ok)∧(ok=true→∃ l v',res=some l∧GEnv w' bn bp bg mb v' (acc ++ l) lim∧acc.length+l.length≤61∧GKept w0 w bp v v' w')∧(ok=false→Lost res acc.length∧Below w0.heap.size w0 w'):=by
 rcases h with ⟨l,v',rfl,h1,h2,h3,h4⟩ | ⟨rfl,h1,h2⟩
 · exact⟨true,rfl,fun _=>⟨l,v',h1,h2,h3,h4⟩,fun e=>by cases e⟩
 · exact⟨false,rfl,fun e=>absurd e (by decide),fun _=>⟨h1,h2⟩⟩
theorem GEnv.drewN {w:World} {bn bp bg mb lim n:Nat} {v:Value} {acc:List za} (h:GEnv w bn bp bg mb v acc lim):GEnv (w.drewN n) bn bp bg mb v acc lim:=⟨h.nodes,h.box,h.self,zgt h.row fun _ _=>rfl⟩
theorem GKept.drewN {w0 w wr:World} {bp n:Nat} {v0 v:Value} (h:GKept w0 w bp v0 v wr):GKept w0 w bp v0 v (wr.drewN n):=⟨zz h.below,h.size,h.own,h.kept⟩
theorem GEnv.drew {w:World} {bn bp bg mb lim:Nat} {v:Value} {acc:List za} (h:GEnv w bn bp bg mb v acc lim):GEnv w.drew bn bp bg mb v acc lim:=⟨h.nodes,h.box,h.self,zgt h.row fun _ _=>rfl⟩
theorem GKept.drew {w0 w wr:World} {bp:Nat} {v0 v:Value} (h:GKept w0 w bp v0 v wr):GKept w0 w bp v0 v wr.drew:=⟨h.below.drew,h.size,h.own,h.kept⟩
theorem GKept.more {w0 w wr:World} {bn bp bg mb lim:Nat} {v0 v:Value} {acc:List za} (hI:GKept w0 w bp v0 v wr) (hE:GEnv wr bn bp bg mb v acc lim) (h0:w0.heap.size≤w.heap.size)
 (hnp:bn≠bp) (hgp:bg≠bp) (hpl:bp<lim) (hnl:bn<lim) (hgl:bg<lim) (hp0:w0.heap.size≤bp) (hl0:w0.heap.size≤lim) (hlw:lim≤w.heap.size)
 {w3:World} (h3:Below wr.heap.size wr w3) {o:Obj} {w5:World} {v6:Value} {e:za} (hg5:(w3.alloc o).grownBy w5 v.ownBlock) (hv6:∀ b,v6.ownBlock=some b→v.ownBlock=some b∨b=(w3.alloc o).heap.size)
 (hr5:w5.ownsRow lim 61 2 v6 (acc.length+1) (zc acc ++ [.string ⟨e.1.toArray⟩,.string ⟨e.2.toArray⟩])) :
 GKept w0 w bp v0 v6 (w5.setCell ⟨bp,0,none⟩ v6)∧GEnv (w5.setCell ⟨bp,0,none⟩ v6) bn bp bg mb v6 (acc ++ [e]) lim:=by
 have hsz:=hI.size
 have hs3:=h3.size
 have hsz5:=hg5.size
 simp only[World.size_alloc] at hsz5
 have hvl:=fun q (hq:v.ownBlock=some q)=>hE.row.lt q hq
 have K:∀ b,b<wr.heap.size→v.ownBlock≠some b→w5.heap[b]? = wr.heap[b]? := fun b h1 h2 =>
  (hg5.block b (by simp;omega) (fun e=>h2 e.symm)).trans ((heap_alloc_old w3 o (by omega)).trans (h3.block b h1))
 have hbn:=lt_of_block hE.nodes
 have hbp:=lt_of_block hE.box
 have hbg:=lt_of_block hE.self
 refine⟨⟨?_,by simp;omega,?_,?_⟩,⟨?_,?_,?_,?_⟩⟩
 · exact (((hI.below.trans (h3.mono (by omega))).alloc (by omega) o).grown hg5 (by simp;omega) fun q hq=>by have:=hvl q hq;omega).setCell (p:=⟨bp,0,none⟩) (by simp only;omega) _
 · intro b hb
   rcases hv6 b hb with h | h
   · exact hI.own b h
   · exact .inr (by simp at h;omega)
 · intro b h1 h2 h3'
   refine (Below.heap_setCell _ _ _ _ (by simp only;omega)).trans ((K b (by omega) fun e=>?_).trans (hI.kept b h1 h2 h3'))
   rcases hI.own b e with h | h
   · exact h3' h
   · omega
 · exact (Below.heap_setCell _ _ _ _ (by simp only;omega)).trans ((K bn hbn fun e=>by have:=hvl _ e;omega).trans hE.nodes)
 · exact zwf ((K bp hbp fun e=>by have:=hvl _ e;omega).trans hE.box)
 · exact (Below.heap_setCell _ _ _ _ (by simp only;omega)).trans ((K bg hbg fun e=>by have:=hvl _ e;omega).trans hE.self)
 · rw[zai,List.length_append]
   exact zgt hr5 fun q hq=>Below.heap_setCell _ _ _ _ (by have:=(hr5.lt q hq).1;simp only;omega)
end Go.Proofs.YtiadimhoolekbaaGreatDoor
