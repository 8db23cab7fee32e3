import Derived.Test.YtiganlkabilblaaGreatDoorV02
import Derived.Defers
import Derived.Deep.LoopGhost
set_option linter.all false
set_option maxHeartbeats 64000000
set_option maxRecDepth 100000
namespace Go.Proofs.YtiganlkabilblaaGreatDoor
open Tryz
open Tryz renaming prog->P
open Option renaming some->S,none->N
open Value renaming int->I
open IntKind renaming i64->J
section
open Go.RowKit
def zu(a:List (Tok×Value))(n:Nat):List Tok:=(a.map (·.1)).drop n
def QE(a:List (Tok×Value)):Prop:=∀i (h:i<a.length),Qm a[i].1.kind/\(a[i].1.kind.last=false->i+1<a.length)
theorem zdg{a:List (Tok×Value)}{n:Nat}(h:n<a.length):zu a n=a[n].1::zu a (n+1):=by unfold zu;rw[List.drop_eq_getElem_cons (by simpa using h)];simp
theorem Z0{a:List (Tok×Value)}{n:Nat}(h:n<a.length):hd (zu a n)=a[n].1:=by rw[zdg h];rfl
theorem Qy{a:List (Tok×Value)}{n:Nat}(h:n<a.length):(zu a n).tail=zu a (n+1):=by rw[zdg h];rfl
theorem zfB{k:TK}(a:Qm k):(zt k==3)=k.isArrow:=by
 cases k with
 |sign c=>have:=KW a;rw[beq_eq_false_iff_ne.2 (by simp only[zt];omega)];rfl|_=>rfl
theorem ziJ{c:UInt8}(h:Qf c=true):c=47\/c=38\/c=33\/c=63\/c=42\/c=43\/c=40\/c=41\/c=46:=by simpa[Qf]using h
theorem JA(w:World)(b c f:Nat)(a:List (Tok×Value))(n d:Nat)(h:Rd w b c f a n d)(i:n<a.length)(K:Int)(g:zt a[n].1.kind=K):Calls P 124 #[.pointer (S ⟨b,0,N⟩)] w λe j=>e=.returned (I .u8 K)/\∃q,j=w.drewN q:=g▸zfI w b c f a n d h i
theorem zdU(w:World)(j k l:Nat)(a:List (Tok×Value))(n d:Nat)(h:Rd w j k l a n d)(r:QE a)(g:n<a.length)(hd:d<=6):Calls P 195 #[.pointer (S ⟨j,0,N⟩)] w λe u=>e=.returned (.bool (zX d (zu a n)))/\∃q,u=w.drewN q:=by
 obtain⟨p,s⟩:=r n g;cases f:a[n].1.kind with
 |name=>
  have o:=s (by rw[f];rfl);have e:zX d (zu a n)= !(decide (d=0)&&(zt a[n+1].1.kind==3)):=by unfold zX;rw[Z0 g,Qy g,Z0 o,f,zfB (r (n+1) o).1];simp only[];rfl
  rw[e];have i:=JA w j k l a n d h g 2 (by rw[f];rfl);have t:=λq=>zdT (w.drewN q) j k l a n d (h.drewN q) o hd;clear e;generalize (decide (d=0)&&(zt a[n+1].1.kind==3))=b at *;go_enter func195,ntmps195;go_wp2_with(first|(go_at_call 124;refine i.mono ?_;rintro e m⟨rfl,q,rfl⟩)|(go_at_call 204;refine(t _).mono ?_;rintro e m⟨rfl,q,rfl⟩));go_ret;exact⟨rfl,_,rfl⟩
 |fin=>
  have e:zX d (zu a n)=false:=by unfold zX;rw[Z0 g,f]
  rw[e];have i:=JA w j k l a n d h g 0 (by rw[f];rfl);go_enter func195,ntmps195;go_wp2_with(first|(go_at_call 124;refine i.mono ?_;rintro e m⟨rfl,q,rfl⟩));go_ret;exact⟨rfl,_,rfl⟩
 |bad=>
  have e:zX d (zu a n)=false:=by unfold zX;rw[Z0 g,f]
  rw[e];have i:=JA w j k l a n d h g 1 (by rw[f];rfl);go_enter func195,ntmps195;go_wp2_with(first|(go_at_call 124;refine i.mono ?_;rintro e m⟨rfl,q,rfl⟩));go_ret;exact⟨rfl,_,rfl⟩
 |arrow=>
  have e:zX d (zu a n)=false:=by unfold zX;rw[Z0 g,f]
  rw[e];have i:=JA w j k l a n d h g 3 (by rw[f];rfl);go_enter func195,ntmps195;go_wp2_with(first|(go_at_call 124;refine i.mono ?_;rintro e m⟨rfl,q,rfl⟩));go_ret;exact⟨rfl,_,rfl⟩
 |lit=>
  have e:zX d (zu a n)=true:=by unfold zX;rw[Z0 g,f]
  rw[e];have i:=JA w j k l a n d h g 4 (by rw[f];rfl);go_enter func195,ntmps195;go_wp2_with(first|(go_at_call 124;refine i.mono ?_;rintro e m⟨rfl,q,rfl⟩));go_ret;exact⟨rfl,_,rfl⟩
 |cls=>
  have e:zX d (zu a n)=true:=by unfold zX;rw[Z0 g,f]
  rw[e];have i:=JA w j k l a n d h g 5 (by rw[f];rfl);go_enter func195,ntmps195;go_wp2_with(first|(go_at_call 124;refine i.mono ?_;rintro e m⟨rfl,q,rfl⟩));go_ret;exact⟨rfl,_,rfl⟩
 |sign c=>
  rw[f]at p;have e:zX d (zu a n)=(c==38||c==33||c==46||c==40):=by unfold zX;rw[Z0 g,f]
  rw[e];have i:=JA w j k l a n d h g c.toNat (by rw[f];rfl);clear f e s;rcases ziJ p with rfl|rfl|rfl|rfl|rfl|rfl|rfl|rfl|rfl;all_goals simp at i;clear p;go_enter func195,ntmps195;go_wp2_with(first|(go_at_call 124;refine i.mono ?_;rintro e m⟨rfl,q,rfl⟩));go_ret;exact⟨rfl,_,rfl⟩
def QJ(a:List UInt8)(K:Int):Bool:=a.any λc=>(c.toNat:Int)==K
theorem zcJ(w:World)(g l m:Nat)(f:List (Tok×Value))(n d:Nat)(h:Rd w g l m f n d)(G:n<f.length)(K:Int)(v:zt f[n].1.kind=K)(a:List UInt8)(s:Nat)(Z:a.length<=3)(x:∀i (F:i<a.length),w.cell? ⟨s,i,N⟩=S (I .u8 a[i].toNat)):Calls P 205 #[.pointer (S ⟨g,0,N⟩),.slice (S ⟨s,0,N⟩) a.length a.length] w λe u=>(QJ a K=true->e=.returned (I .u8 K)/\Rd u g l m f (n+1) d)/\(QJ a K=false->e=.returned (I .u8 0)/\Rd u g l m f n d)/\Kp g w.heap.size w u:=by
 have p:=λq=>JA (w.drewN q) g l m f n d (h.drewN q) G K v;obtain⟨O,R,U,V⟩:=h.cells;have hl:=h.2.2.1;have H:Hid (Rd w g l m f n d):=h;have B:Hid (∀i (F:i<a.length),w.cell? ⟨s,i,N⟩=S (I .u8 a[i].toNat)):=x;clear h v x;go_enter func205,ntmps205;go_wp2_with fail;go_loopw[9] (λi wr=>∃(j q:Nat),j<=a.length/\i=I J j/\wr=w.drewN q/\Hid (∀t (k:t<a.length),t<j->((a[t].toNat:Int)==K)=false)) (λi _=>a.length-(intOf i).toNat);case atStart=>exact⟨0,0,Nat.zero_le _,rfl,rfl,λt _ k=>by omega⟩
 case round=>
  obtain⟨j,q,Y,rfl,rfl,o⟩:=hrel;by_cases z:j<a.length
  ·have X:=B.out j z;have a0:(j:Int)<a.length:=by omega
   by_cases b:K=a[j].toNat
   ·have L:(K==(a[j].toNat:Int))=true:=by rw[b];simp
    have y:QJ a K=true:=by unfold QJ;rw[List.any_eq_true];exact⟨a[j],List.getElem_mem z,by rw[b];simp⟩
    have r:Hid (QJ a K=true):=y;have D:Hid (K=a[j].toNat):=b;clear b y;go_wp2_with(first|(go_at_call 124;refine(p _).mono ?_;rintro e M⟨rfl,q,rfl⟩));go_ret;refine⟨λ_=>⟨?_,?_⟩,λh=> ?_,?_⟩;·show Ending.returned (Value.int IntKind.u8 _)=_;rw[D.out]
    ·exact(H.out.set1 (n+1)).below (below_drewN (Below.refl _ _) _)
    ·rw[r.out]at h;cases h
    ·exact((Kp.refl _ _ _).setRb _ _).drewN _
   ·have L:(K==(a[j].toNat:Int))=false:=beq_eq_false_iff_ne.2 b;have E:Hid (∀t (k:t<a.length),t<j+1->((a[t].toNat:Int)==K)=false):=by
     intro t k W;by_cases e:t=j;·subst e;exact beq_eq_false_iff_ne.2 (λe=>b e.symm)
     ·exact o.out t k (by omega)
    clear b o;go_wp2_with(first|(go_at_call 124;refine(p _).mono ?_;rintro e M⟨rfl,q,rfl⟩));go_roundw;case rel=>exact⟨j+1,_,by omega,by go_num,rfl,E⟩
    case measure=>simp[intOf];omega
  ·have A:QJ a K=false:=by unfold QJ;rw[List.any_eq_false];intro c p;obtain⟨t,k,rfl⟩:=List.getElem_of_mem p;rw[o.out t k (by omega)];simp
   have r:Hid (QJ a K=false):=A;clear A o;go_wp2_with fail;go_ret;refine⟨λh=> ?_,λ_=>⟨rfl,?_⟩,?_⟩;·rw[r.out]at h;cases h
   ·exact H.out.drewN _
   ·exact(Kp.refl _ _ _).drewN _
def zS(a p:Nat):Value:=.iface 128 (.agg #[I J a,I J p])
def Row(w:World)(A:Nat->Prop)(e:TypeId)(a:Nat)(v:Value)(n:Nat)(b:List Value):Prop:=w.ownsRow 0 e a v n b/\∀g,v.ownBlock=S g->A g
theorem Row.mono{w:World}{A A':Nat->Prop}{e:TypeId}{b:Nat}{v:Value}{n:Nat}{c:List Value}(h:Row w A e b v n c)(d:∀g,g<w.heap.size->A g->A' g):Row w A' e b v n c:=⟨h.1,λg a=>d g (h.1.lt g a).2 (h.2 g a)⟩
theorem Z6{w f:World}{b:Nat}{e:TypeId}{d:Nat}{v:Value}{n:Nat}{i:List Value}(h:w.ownsRow b e d v n i)(m:∀g,v.ownBlock=S g->f.heap[g]?=w.heap[g]?):f.ownsRow b e d v n i:=by
 obtain⟨l,a⟩:=h;refine⟨l,?_⟩;rcases a with a|⟨g,j,k,c,o,p,r⟩;·exact Or.inl a
 ·refine Or.inr ⟨g,j,k,c,o,?_,r⟩;rw[m g (by rw[c];rfl)];exact p
theorem Row.kept{w w':World}{A:Nat->Prop}{e:TypeId}{b:Nat}{v:Value}{n:Nat}{c:List Value}(h:Row w A e b v n c)(d:∀g,g<w.heap.size->A g->w'.heap[g]?=w.heap[g]?):Row w' A e b v n c:=⟨Z6 h.1 (λg a=>d g (h.1.lt g a).2 (h.2 g a)),h.2⟩
def QM:List Term->List Value->List Value
 | .mk a _ b::s,v::c=>I .u8 a.toNat::v::I .u8 b.toNat::QM s c
 |_,_=>[]
mutual
def zp(w:World)(A:Nat->Prop):zC->Value->Prop
  | .name b,v=>v=.iface 251 (.agg #[.string ⟨b.toArray⟩])/\b.length<=2000
  | .lit b,v=>v=.iface 319 (.agg #[.string ⟨b.toArray⟩])
  | .cls l,v=>∃u,v=.iface 321 (.agg #[u])/\Qr w 0 u l
  | .any,v=>v=.iface 345 (.agg #[])
  | .group c,v=>∃u us,v=.iface 296 (.agg #[u])/\Row w A 215 1 u c.length us/\zA w A c us
def Zk(w:World)(A:Nat->Prop):Term->Value->Prop
  | .mk _ p _,v=>zp w A p v
def zD(w:World)(A:Nat->Prop):List Term->List Value->Prop
  |[],vs=>vs=[]
  |t::s,vs=>∃v vs',vs=v::vs'/\Zk w A t v/\zD w A s vs'
def zA(w:World)(A:Nat->Prop):List (List Term)->List Value->Prop
  |[],us=>us=[]
  |s::c,us=>∃u us',us=u::us'/\(∃vs,Row w A 249 3 u s.length (QM s vs)/\zD w A s vs)/\zA w A c us'
 end
def QX(w:World)(A:Nat->Prop)(s:Seq)(u:Value):Prop:=∃a,Row w A 249 3 u s.length (QM s a)/\zD w A s a
def Zt(w:World)(A:Nat->Prop)(c:Z5)(u:Value):Prop:=∃a,Row w A 215 1 u c.length a/\zA w A c a
structure Sm(A:Nat->Prop)(w w':World):Prop where
 spans:∀u l,Qr w 0 u l->Qr w' 0 u l
 blocks:∀g,g<w.heap.size->A g->w'.heap[g]?=w.heap[g]?
mutual
theorem zp.kept{w w':World}{A:Nat->Prop}(h:Sm A w w'):∀(p:zC) (v:Value),zp w A p v->zp w' A p v
  | .name _,_,hp=>by simp only[zp]at hp|-;exact hp
  | .lit _,_,hp=>by simp only[zp]at hp|-;exact hp
  | .cls _,_,hp=>by
    simp only[zp]at hp|-
    obtain⟨u,hv,hs⟩:=hp
    exact⟨u,hv,h.spans _ _ hs⟩
  | .any,_,hp=>by simp only[zp]at hp|-;exact hp
  | .group c,_,hp=>by
    simp only[zp]at hp|-
    obtain⟨u,us,hv,hr,hc⟩:=hp
    exact⟨u,us,hv,hr.kept h.blocks,zA.kept h c us hc⟩
theorem Zk.kept{w w':World}{A:Nat->Prop}(h:Sm A w w'):∀(t:Term) (v:Value),Zk w A t v->Zk w' A t v
  | .mk _ p _,v,ht=>by simp only[Zk]at ht|-;exact zp.kept h p v ht
theorem zD.kept{w w':World}{A:Nat->Prop}(h:Sm A w w'):∀(s:List Term) (vs:List Value),zD w A s vs->zD w' A s vs
  |[],_,hs=>by simp only[zD]at hs|-;exact hs
  |t::s,_,hs=>by
    simp only[zD]at hs|-
    obtain⟨v,vs',hv,ht,hs⟩:=hs
    exact⟨v,vs',hv,Zk.kept h t v ht,zD.kept h s vs' hs⟩
theorem zA.kept{w w':World}{A:Nat->Prop}(h:Sm A w w'):∀(c:List (List Term)) (us:List Value),zA w A c us->zA w' A c us
  |[],_,hs=>by simp only[zA]at hs|-;exact hs
  |s::c,_,hs=>by
    simp only[zA]at hs|-
    obtain⟨u,us',hu,⟨vs,hr,ht⟩,hc⟩:=hs
    exact⟨u,us',hu,⟨vs,hr.kept h.blocks,zD.kept h s vs ht⟩,zA.kept h c us' hc⟩
 end
mutual
theorem zp.mono{w:World}{A A':Nat->Prop}(h:∀g,g<w.heap.size->A g->A' g):∀(p:zC) (v:Value),zp w A p v->zp w A' p v
  | .name _,_,hp=>by simp only[zp]at hp|-;exact hp
  | .lit _,_,hp=>by simp only[zp]at hp|-;exact hp
  | .cls _,_,hp=>by simp only[zp]at hp|-;exact hp
  | .any,_,hp=>by simp only[zp]at hp|-;exact hp
  | .group c,_,hp=>by
    simp only[zp]at hp|-
    obtain⟨u,us,hv,hr,hc⟩:=hp
    exact⟨u,us,hv,hr.mono h,zA.mono h c us hc⟩
theorem Zk.mono{w:World}{A A':Nat->Prop}(h:∀g,g<w.heap.size->A g->A' g):∀(t:Term) (v:Value),Zk w A t v->Zk w A' t v
  | .mk _ p _,v,ht=>by simp only[Zk]at ht|-;exact zp.mono h p v ht
theorem zD.mono{w:World}{A A':Nat->Prop}(h:∀g,g<w.heap.size->A g->A' g):∀(s:List Term) (vs:List Value),zD w A s vs->zD w A' s vs
  |[],_,hs=>by simp only[zD]at hs|-;exact hs
  |t::s,_,hs=>by
    simp only[zD]at hs|-
    obtain⟨v,vs',hv,ht,hs⟩:=hs
    exact⟨v,vs',hv,Zk.mono h t v ht,zD.mono h s vs' hs⟩
theorem zA.mono{w:World}{A A':Nat->Prop}(h:∀g,g<w.heap.size->A g->A' g):∀(c:List (List Term)) (us:List Value),zA w A c us->zA w A' c us
  |[],_,hs=>by simp only[zA]at hs|-;exact hs
  |s::c,_,hs=>by
    simp only[zA]at hs|-
    obtain⟨u,us',hu,⟨vs,hr,ht⟩,hc⟩:=hs
    exact⟨u,us',hu,⟨vs,hr.mono h,zD.mono h s vs ht⟩,zA.mono h c us' hc⟩
 end
theorem Zt.kept{w w':World}{A:Nat->Prop}(h:Sm A w w'){c:Z5}{u:Value}(b:Zt w A c u):Zt w' A c u:=by obtain⟨a,d,e⟩:=b;exact⟨a,d.kept h.blocks,zA.kept h c a e⟩
theorem Zt.mono{w:World}{A A':Nat->Prop}(h:∀g,g<w.heap.size->A g->A' g){c:Z5}{u:Value}(b:Zt w A c u):Zt w A' c u:=by obtain⟨a,d,e⟩:=b;exact⟨a,d.mono h,zA.mono h c a e⟩
theorem QX.kept{w w':World}{A:Nat->Prop}(h:Sm A w w'){c:Seq}{u:Value}(b:QX w A c u):QX w' A c u:=by obtain⟨a,d,e⟩:=b;exact⟨a,d.kept h.blocks,zD.kept h c a e⟩
theorem QX.mono{w:World}{A A':Nat->Prop}(h:∀g,g<w.heap.size->A g->A' g){c:Seq}{u:Value}(b:QX w A c u):QX w A' c u:=by obtain⟨a,d,e⟩:=b;exact⟨a,d.mono h,zD.mono h c a e⟩
theorem zj6(s:List Term)(c:List Value)(h:s.length=c.length)(a b:UInt8)(p:zC)(v:Value):QM (s++[.mk a p b]) (c++[v])=QM s c++[I .u8 a.toNat,v,I .u8 b.toNat]:=by
 induction s generalizing c with
 |nil=>cases c with|nil=>rfl|cons _ _=>simp at h
 |cons t s d=>cases c with
  |nil=>simp at h
  |cons u c=>
   cases t with
   |mk e g f=>simp only[List.cons_append,QM];rw[d c (by simpa using h)]
theorem zD.length{w:World}{A:Nat->Prop}:∀{s:List Term} {a:List Value},zD w A s a->s.length=a.length
 |[],_,h=>by simp only[zD]at h;subst h;rfl
 |t::s,_,h=>by simp only[zD]at h;obtain⟨v,c,rfl,_,b⟩:=h;simp[zD.length b]
theorem zA.length{w:World}{A:Nat->Prop}:∀{s:List (List Term)} {a:List Value},zA w A s a->s.length=a.length
 |[],_,h=>by simp only[zA]at h;subst h;rfl
 |t::s,_,h=>by simp only[zA]at h;obtain⟨v,c,rfl,_,b⟩:=h;simp[zA.length b]
theorem zD.snoc{w:World}{A:Nat->Prop}{t:Term}{v:Value}(a:Zk w A t v):∀{s:List Term} {b:List Value},zD w A s b->zD w A (s++[t]) (b++[v])
 |[],_,h=>by simp only[zD]at h;subst h;simp[zD,a]
 |t'::s,_,h=>by simp only[zD]at h;obtain⟨e,f,rfl,c,d⟩:=h;simp only[List.cons_append,zD];exact⟨e,f++[v],rfl,c,zD.snoc a d⟩
theorem zA.snoc{w:World}{A:Nat->Prop}{t:Seq}{v:Value}(a:QX w A t v):∀{s:List (List Term)} {b:List Value},zA w A s b->zA w A (s++[t]) (b++[v])
 |[],_,h=>by simp only[zA]at h;subst h;simp only[List.nil_append,zA];exact⟨v,[],rfl,a,rfl⟩
 |t'::s,_,h=>by simp only[zA]at h;obtain⟨e,f,rfl,c,d⟩:=h;simp only[List.cons_append,zA];exact⟨e,f++[v],rfl,c,zA.snoc a d⟩
def U2(f g h:Nat)(c:List (Tok×Value))(d:Nat)(zero:Value)(a p:Nat)(e:Ending)(i:World):Prop:=e=.returned (.tuple #[zero,zS a p])/\∃b,Rd i f g h c b d
def qz(w:World)(f g h:Nat)(b:List (Tok×Value))(n d:Nat)(e:Ending)(c:World):Res zC->Prop
 | .ok p j=>∃a v,j=zu b a/\n<a/\a<b.length/\e=.returned (.tuple #[v,.nilIface])/\zp c (w.heap.size<= ·) p v/\Rd c f g h b a d
 | .err i p=>U2 f g h b d .nilIface i p e c
def K8(w:World)(b g h:Nat)(a:List (Tok×Value))(n d:Nat)(e:Ending)(f:World):Prop:=∃c,Qi d (zu a n) c/\Kp b w.heap.size w f/\qz w b g h a n d e f c
def zdq(w:World)(i j k:Nat)(f:List (Tok×Value))(n d:Nat)(e:Ending)(g:World):Res Z5->Prop
 | .ok c o=>∃b a l h,o=zu f b/\n<=b/\b<f.length/\e=.returned (.tuple #[.slice a l h,.nilIface])/\Zt g (w.heap.size<= ·) c (.slice a l h)/\Rd g i j k f b d
 | .err m p=>U2 i j k f d (.slice N 0 0) m p e g
def zdr(w:World)(b g h:Nat)(a:List (Tok×Value))(n d:Nat)(e:Ending)(f:World):Prop:=∃c,Z8 d (zu a n) c/\Kp b w.heap.size w f/\zdq w b g h a n d e f c
def YJ(b c f:Nat)(a:List (Tok×Value))(R:Nat):Prop:=∀(w:World) (n d:Nat),Rd w b c f a n d->n<a.length->a.length-n<=R->d<=6->Calls P 163 #[.pointer (S ⟨b,0,N⟩)] w λe g=>zdr w b c f a n d e g
theorem za0(b a:Nat)(u:FrameMode)(w:World)(d:Nat)(h:w.cell? ⟨b,0,N⟩=S (.pointer (S ⟨a,0,N⟩)))(c:w.cell? ⟨a,2,N⟩=S (I J ↑(d+1)))(k:w.frozen? ⟨a,2,N⟩=false)(i:d<=6):CallsD P 221 #[.pointer (S ⟨b,0,N⟩)] u w λe f g=>f=u/\(e=.returned (.tuple #[])/\g=w.setCell ⟨a,2,N⟩ (I J d)):=by have j:w.cell? ⟨a,2,N⟩=S (I J (d+1)):=c;clear c;go_enter_d func221,ntmps221;go_wp2;go_end0;exact⟨rfl,rfl⟩
theorem zf9(w:World)(a c d:Nat)(b:List (Tok×Value))(n:Nat)(h:Rd w a c d b n 6)(k:n<b.length):Calls P 214 #[.pointer (S ⟨a,0,N⟩)] w λe j=>e=.returned (.tuple #[.nilIface,zS 3 b[n].1.place])/\Rd j a c d b n 6/\Kp a w.heap.size w j:=by have s:∀(g:Fn) (first f:Array Value) (w:World),(Instr.makeFunc g first f).run P w=.ok (.func g first f) w:=λ_ _ _ _=>rfl;obtain⟨m,o,p,r⟩:=h.cells;have t:=h.lt;have i:Below w.heap.size w (w.alloc (.cells #[.pointer (S ⟨a,0,N⟩)] 179)):=zc _ _;have l:=UU _ a c d b n 6 (h.below i) k 3;have H:Hid (Rd w a c d b n 6):=h;clear h i;go_enter_defers func214,ntmps214;go_wp2_with(first|(go_at_call 162;refine l.mono ?_;rintro e u⟨rfl,q,rfl⟩));exact⟨_,results_tmp2 rfl _ _ _,rfl,(H.out.below (zc _ _)).drewN _,((Kp.refl _ _ _).alloc (Nat.le_refl _) _).drewN _⟩
abbrev Vr(a:Nat):Obj:=.cells #[.pointer (S ⟨a,0,N⟩)] 179
theorem JS{c:Nat}{W d:World}(g:Kp c W.heap.size W d){b:Nat}(e:b<W.heap.size)(f:b≠c)(o:Nat):d.cell? ⟨b,o,N⟩=W.cell? ⟨b,o,N⟩:=World.cell?_of_block (w:=W) (a:=⟨b,o,N⟩) (g.block b e f)
theorem KY{A:Nat->Prop}{a:Nat}{w c:World}{d:Array Value}{e:Nat×Nat}(k:w.heap[a]?=S (.cells d 183 e))(b:Kp a w.heap.size w c)(f:∀g,A g->g≠a):Sm A w c:=⟨λ_ _ h=>JT h k (by decide) b,λg j i=>b.block g j (f g i)⟩
theorem zfD{k:TK}(a:Qm k)(h:k≠.sign 41):zt k≠41:=by
 cases k with
 |sign c=>intro e;apply h;simp only[zt]at e;congr 1;apply UInt8.toNat_inj.1;rw[show(41:UInt8).toNat=41 from rfl];omega|_=>simp[zt]
theorem zf8(w:World)(b o q:Nat)(i:List (Tok×Value))(n d:Nat)(h:Rd w b o q i n d)(y:QE i)(t:n<i.length)(R:d<=6)(U:i[n].1.kind=.sign 40)(hC:YJ b o q i (i.length-n-1)):Calls P 214 #[.pointer (S ⟨b,0,N⟩)] w λe w'=>K8 w b o q i n d e w':=by
 by_cases F:d=6;·subst F;refine(zf9 w b o q i n h t).mono ?_;rintro e w'⟨rfl,hr,ae⟩;exact⟨.err 3 i[n].1.place,by rw[<-Z0 t];exact .deep (by rw[Z0 t];exact U),ae,rfl,n,hr⟩
 have af:n+1<i.length:=(y n t).2 (by rw[U];rfl);have t6:((d:Int)==6)=false:=beq_eq_false_iff_ne.2 (by omega);have ao:∀(fn:Fn) (first a1:Array Value) (w:World),(Instr.makeFunc fn first a1).run P w=.ok (.func fn first a1) w:=λ_ _ _ _=>rfl;obtain⟨c0,c1,c2,fz⟩:=h.cells;have ap:=h.lt;have hl:=h.2.2.1;have a5:Rd (((w.setCell ⟨b,1,N⟩ (I J ((n:Int)+1))).setCell ⟨b,2,N⟩ (I J ((d:Int)+1))).alloc (Vr b)) b o q i (n+1) (d+1):=((h.set1 (n+1)).set2 (d+1)).below (zc _ _);have a7:=hC _ (n+1) (d+1) a5 af (by omega) (by omega);have V:(hd (zu i n)).kind=.sign 40:=by rw[Z0 t];exact U
 have a2:Kp b w.heap.size w (((w.setCell ⟨b,1,N⟩ (I J ((n:Int)+1))).setCell ⟨b,2,N⟩ (I J ((d:Int)+1))).alloc (Vr b)):=(((Kp.refl _ _ _).setRb _ _).setRb _ _).alloc (by simp) _;have W:(((w.setCell ⟨b,1,N⟩ (I J ((n:Int)+1))).setCell ⟨b,2,N⟩ (I J ((d:Int)+1))).alloc (Vr b)).heap.size=w.heap.size+1:=by simp
 have a6:(((w.setCell ⟨b,1,N⟩ (I J ((n:Int)+1))).setCell ⟨b,2,N⟩ (I J ((d:Int)+1))).alloc (Vr b)).cell? ⟨w.heap.size,0,N⟩=S (.pointer (S ⟨b,0,N⟩)):=by rw[show w.heap.size=((w.setCell ⟨b,1,N⟩ (I J ((n:Int)+1))).setCell ⟨b,2,N⟩ (I J ((d:Int)+1))).heap.size from by simp,World.cell?_alloc_mark];rfl
 have X:=(show Hid _ from a2);clear a2;clear a5 h hC;go_enter_defers func214,ntmps214;go_wp2_with fail;refine a7.mono ?_;rintro e m⟨al,hP,B,hE⟩;have M:m.cell? ⟨w.heap.size,0,N⟩=S (.pointer (S ⟨b,0,N⟩)):=by rw[JS B (by rw[W];omega) (by omega)];exact a6
 have aj:=B.size;rw[W]at aj;have a3:Kp b w.heap.size w m:=X.out.trans (B.mono (by rw[W];omega));have am:=(show Hid _ from B);have G:=(show Hid _ from a3);have K:=(show Hid _ from hP);clear B a3 a6 a7 X hP;cases al with
 |err er p=>obtain⟨rfl,j,k⟩:=hE;obtain⟨r0,r1,D,rf⟩:=k.cells;have H:Hid (Rd m b o q i j (d+1)):=k;clear k;simp only[zS];go_wp2_with fail;refine leaves_cons (f:=221) (args:=#[.pointer (S ⟨w.heap.size,0,N⟩)]) (by simp) (by simp[go_sem]) ?_;refine(za0 w.heap.size b .returning _ d M D (rf 2) R).mono ?_;rintro e u' a8⟨rfl,rfl,rfl⟩;refine⟨_,results_tmp2 rfl _ _ _,.err er p,?_,G.out.setRb _ _,rfl,j,H.out.set2 d⟩;exact .inner V F (by rw[Qy t];exact K.out)
 |ok c aq=>
  obtain⟨j,a,l,cp,rfl,an,r,rfl,L,k⟩:=hE;have ah:=(y j r).1;by_cases z:i[j].1.kind=.sign 41
  ·have x:=qR m b o q i j (d+1) k r 41 (by rw[z];rfl);have ag:j+1<i.length:=(y j r).2 (by rw[z];rfl);obtain⟨Y,Z,A⟩:=zl (k.2.1.2 i[j] (List.getElem_mem r));have a9:Hid (Zt m ((((w.setCell ⟨b,1,N⟩ (I J ((n:Int)+1))).setCell ⟨b,2,N⟩ (I J ((d:Int)+1))).alloc (Vr b)).heap.size<= ·) c (.slice a l cp)):=L;have HR:Hid (Rd m b o q i j (d+1)):=k;have ai:=k.lt;simp only[zP,A]at x;clear L k A;go_wp2_with fail;refine x.mono ?_;rintro e u⟨rfl,v,s⟩;have O:u.cell? ⟨w.heap.size,0,N⟩=S (.pointer (S ⟨b,0,N⟩)):=by rw[JS s (by omega) (by omega)];exact M
   have ak:=s.size;obtain⟨r0,r1,D,rf⟩:=v.cells;have H:Hid (Rd u b o q i (j+1) (d+1)):=v;have E:Hid (Kp b m.heap.size m u):=s;clear v s x;go_wp2_with fail;refine leaves_cons (f:=221) (args:=#[.pointer (S ⟨w.heap.size,0,N⟩)]) (by simp) (by simp[go_sem]) ?_;refine(za0 w.heap.size b .returning _ d ?_ ?_ ?_ R).mono ?_;·rw[World.cell?_alloc_lt _ _ _ (by simp only[];omega)];exact O
   ·rw[World.cell?_alloc_lt _ _ _ (by simp only[];omega)];exact D
   ·rw[World.frozen?_alloc_old _ _ _ (by simp only[];omega)];exact rf 2
   rintro e u' a8⟨rfl,rfl,rfl⟩;refine⟨_,results_tmp2 rfl _ _ _,.ok (.group c) (zu i (j+1)),?_,?_,j+1,_,rfl,by omega,ag,rfl,?_,?_⟩;·rw[<-Qy r];exact .group V F (by rw[Qy t];exact K.out) (by rw[Z0 r];exact z)
   ·exact((G.out.trans (E.out.mono (by omega))).alloc (by omega) _).setRb _ _
   ·have hA:=a9.out;have a4:Kp b m.heap.size m ((u.alloc (.cells #[Value.int IntKind.u8 (zt i[j].1.kind),Value.int IntKind.i64 ↑i[j].1.place,Value.string ⟨List.toArray i[j].1.text⟩,Value.slice Y i[j].1.spans.length Z] 237)).setCell ⟨b,2,N⟩ (Value.int IntKind.i64 ↑d)):=(E.out.alloc (by omega) _).setRb _ _;rw[z]at a4;have aa:=(hA.kept (KY HR.out.1 a4 (λg y=>by simp at y;omega))).mono (A':=(w.heap.size<= ·)) (λg _ y=>by simp at y;omega);obtain⟨us,ab,ad⟩:=aa;simp only[zp];exact⟨_,us,rfl,ab,ad⟩
   ·exact(H.out.below (zc _ _)).set2 d
  ·have x:=qQ m b o q i j (d+1) k r 41 (zfD ah z);obtain⟨Y,Z,A⟩:=zl (k.2.1.2 i[j] (List.getElem_mem r));have ai:=k.lt;simp only[zP,A]at x;clear L k A;go_wp2_with fail;refine x.mono ?_;rintro e u⟨rfl,v,s⟩;have O:u.cell? ⟨w.heap.size,0,N⟩=S (.pointer (S ⟨b,0,N⟩)):=by rw[JS s (by omega) (by omega)];exact M
   have ak:=s.size;obtain⟨r0,r1,D,rf⟩:=v.cells;have H:Hid (Rd u b o q i j (d+1)):=v;have E:Hid (Kp b m.heap.size m u):=s;clear v s x;go_wp2_with fail;refine leaves_cons (f:=221) (args:=#[.pointer (S ⟨w.heap.size,0,N⟩)]) (by simp) (by simp[go_sem]) ?_;refine(za0 w.heap.size b .returning _ d ?_ ?_ ?_ R).mono ?_;·rw[World.cell?_alloc_lt _ _ _ (by simp only[];omega)];exact O
   ·rw[World.cell?_alloc_lt _ _ _ (by simp only[];omega)];exact D
   ·rw[World.frozen?_alloc_old _ _ _ (by simp only[];omega)];exact rf 2
   rintro e u' a8⟨rfl,rfl,rfl⟩;refine⟨_,results_tmp2 rfl _ _ _,.err 2 i[j].1.place,?_,?_,rfl,j,?_⟩;·rw[<-Z0 r];exact .unclosed V F (by rw[Qy t];exact K.out) (by rw[Z0 r];exact z)
   ·exact((G.out.trans (E.out.mono (by omega))).alloc (by omega) _).setRb _ _
   ·exact(H.out.below (zc _ _)).set2 d
theorem zhf(w:World)(i j m:Nat)(b:List (Tok×Value))(n d:Nat)(h:Rd w i j m b n d)(F:QE b)(l:n<b.length)(q:zC)(a:zU b[n].1=S q):Calls P 206 #[.pointer (S ⟨i,0,N⟩)] w λe k=>K8 w i j m b n d e k:=by
 have r:Qi d (zu b n) (.ok q (zu b (n+1))):=by rw[<-Qy l];exact .plain (by rw[Z0 l];exact a)
 obtain⟨O,R,U,V⟩:=h.cells;obtain⟨g,k1,k2,L⟩:=h.tok' n l;have W:=h.2.2.1;have X:(n:Int)<(b.length:Int):=by omega
 have p:=h.2.1.2 b[n] (List.getElem_mem l);obtain⟨s,t,z⟩:=zl p;have Y:=h.lt;have y:Hid (b[n].1.text.length<=2000):=h.2.2.2 b[n] (List.getElem_mem l);have Z:j<w.heap.size:=((h.2.1.1.lt j rfl).2);have K:b[n].1.kind.last=false:=by
  unfold zU at a;cases f:b[n].1.kind with
  |fin=>rw[f]at a;cases a|bad=>rw[f]at a;cases a|_=>rfl
 have G:n+1<b.length:=(F n l).2 K;rw[z]at L p;have H:Hid (Rd w i j m b n d):=h;have x:Hid (Qr w 0 (.slice s b[n].1.spans.length t) b[n].1.spans):=p;have M:Hid (Qi d (zu b n) (.ok q (zu b (n+1)))):=r;have fin:∀(k:World) (v:Value),Kp i w.heap.size w k->Rd k i j m b (n+1) d->zp k (w.heap.size<= ·) q v->K8 w i j m b n d (.returned (.tuple #[v,.nilIface])) k:=λk v A B D=>⟨_,r,A,n+1,v,rfl,by omega,G,rfl,D,B⟩;have o:Hid _:=fin;clear h r p fin;unfold zU at a;cases f:b[n].1.kind with
 |name=>
  rw[f]at a g;simp only[Option.some.injEq]at a;subst a;simp only[zt]at g;go_enter func206,ntmps206;go_wp2_with fail;go_region;go_wp2_with fail;go_ret2;refine o.out _ _ ?_ ?_ ?_;·exact((((Kp.refl _ _ _).setRb _ _).alloc (by simp) _)).drew
  ·exact(H.out.set1 (n+1)).below (zc _ _).drew
  ·simp only[zp];exact⟨rfl,y.out⟩
 |lit=>
  rw[f]at a g;simp only[Option.some.injEq]at a;subst a;simp only[zt]at g;go_enter func206,ntmps206;go_wp2_with fail;go_region;go_wp2_with fail;go_ret2;refine o.out _ _ ?_ ?_ ?_;·exact((((Kp.refl _ _ _).setRb _ _).alloc (by simp) _)).drew
  ·exact(H.out.set1 (n+1)).below (zc _ _).drew
  ·simp only[zp];rfl
 |cls=>
  rw[f]at a g;simp only[Option.some.injEq]at a;subst a;simp only[zt]at g;go_enter func206,ntmps206;go_wp2_with fail;go_region;go_wp2_with fail;go_ret2;have u:Kp i w.heap.size w ((((w.setCell ⟨i,1,N⟩ (I J ((n:Int)+1))).alloc (.cells #[I .u8 5,I J ↑b[n].1.place,.string ⟨List.toArray b[n].1.text⟩,.slice s b[n].1.spans.length t] 237))).drew):=((((Kp.refl _ _ _).setRb _ _).alloc (by simp) _)).drew;refine o.out _ _ u ?_ ?_;·exact(H.out.set1 (n+1)).below (zc _ _).drew
  ·simp only[zp];exact⟨_,rfl,JT x.out H.out.1 (by decide) u⟩
 |sign c=>
  rw[f]at a g;simp only[]at a;split at a
  ·rename_i E;subst E;simp only[Option.some.injEq]at a;subst a;simp only[zt]at g;simp at g;go_enter func206,ntmps206;go_wp2_with fail;go_region;go_wp2_with fail;go_ret2;refine o.out _ _ ?_ ?_ ?_;·exact((((Kp.refl _ _ _).setRb _ _).alloc (by simp) _)).drew
   ·exact(H.out.set1 (n+1)).below (zc _ _).drew
   ·simp only[zp];rfl
  ·cases a
 |fin=>rw[f]at a;cases a|bad=>rw[f]at a;cases a|arrow=>rw[f]at a;cases a
theorem zhe(w:World)(b c f:Nat)(a:List (Tok×Value))(n d:Nat)(h:Rd w b c f a n d)(o:QE a)(q:n<a.length)(hd:d<=6)(B:a[n].1.kind=.sign 40)(l:YJ b c f a (a.length-n-1)):Calls P 206 #[.pointer (S ⟨b,0,N⟩)] w λe j=>K8 w b c f a n d e j:=by
 obtain⟨V,W,X,Z⟩:=h.cells;obtain⟨E,k1,k2,R⟩:=h.tok' n q;have hl:=h.2.2.1;have a1:(n:Int)<(a.length:Int):=by omega
 obtain⟨s,t,K⟩:=zl (h.2.1.2 a[n] (List.getElem_mem q));have a2:=h.lt;have a3:c<w.heap.size:=((h.2.1.1.lt c rfl).2);rw[K]at R;rw[B]at E;simp[zt]at E;have H:Hid (Rd w b c f a n d):=h;have A:=λj (i:Rd j b c f a n d)=>zf8 j b c f a n d i o q hd B l;clear h;go_enter func206,ntmps206;go_wp2_with fail;go_region;go_wp2_with fail;have k:Below w.heap.size w (w.alloc (.cells #[I .u8 40,I J ↑a[n].1.place,.string ⟨List.toArray a[n].1.text⟩,.slice s a[n].1.spans.length t] 237)).drew:=(zc _ _).drew;have D:(w.alloc (.cells #[I .u8 40,I J ↑a[n].1.place,.string ⟨List.toArray a[n].1.text⟩,.slice s a[n].1.spans.length t] 237)).drew.heap.size=w.heap.size+1:=by simp
 refine(A _ (H.out.below k)).mono ?_;rintro e G⟨U,y,m,u⟩;rw[D]at m;have x:Kp b w.heap.size w G:=(Kp.of k).trans (m.mono (by omega));clear A m k;cases U with
 |err Y p=>obtain⟨rfl,r,i⟩:=u;simp only[zS];clear l;go_wp2_with fail;go_ret2;exact⟨_,y,x,rfl,r,i⟩
 |ok F a4=>obtain⟨r,v,rfl,M,O,rfl,z,i⟩:=u;have L:zp G (w.heap.size<= ·) F v:=zp.mono (λg _ o=>by rw[D]at o;omega) F v z;clear l z;go_wp2_with fail;go_ret2;exact⟨_,y,x,r,v,rfl,M,O,rfl,L,i⟩
theorem zhh{t:Tok}(d:Qm t.kind)(h:zU t=N)(b:t.kind≠.sign 40):(zt t.kind==2)=false/\(zt t.kind==4)=false/\(zt t.kind==5)=false/\(zt t.kind==46)=false/\(zt t.kind==40)=false:=by
 unfold zU at h;cases a:t.kind with
 |name=>rw[a]at h;cases h|lit=>rw[a]at h;cases h|cls=>rw[a]at h;cases h
 |sign c=>
  rw[a]at h d b;simp only[]at h;have f:c≠46:=by intro e;rw[if_pos e]at h;cases h
  have g:c≠40:=by intro e;apply b;rw[e]
  have i:=KW d;refine⟨?_,?_,?_,?_,?_⟩<;>simp only[zt]<;>apply beq_eq_false_iff_ne.2;·omega
  ·omega
  ·omega
  ·intro e;apply f;apply UInt8.toNat_inj.1;rw[show(46:UInt8).toNat=46 from rfl];omega
  ·intro e;apply g;apply UInt8.toNat_inj.1;rw[show(40:UInt8).toNat=40 from rfl];omega
 |_=>simp[zt]
theorem zhd(w:World)(f c g:Nat)(a:List (Tok×Value))(n d:Nat)(h:Rd w f c g a n d)(u:QE a)(b:n<a.length)(k:zU a[n].1=N)(j:a[n].1.kind≠.sign 40):Calls P 206 #[.pointer (S ⟨f,0,N⟩)] w λe i=>K8 w f c g a n d e i:=by
 obtain⟨x,y,z,A⟩:=h.cells;obtain⟨G,L,M,v⟩:=h.tok' n b;have B:=h.2.2.1;have D:(n:Int)<(a.length:Int):=by omega
 obtain⟨o,p,r⟩:=zl (h.2.1.2 a[n] (List.getElem_mem b));have E:=h.lt;have F:c<w.heap.size:=((h.2.1.1.lt c rfl).2);rw[r]at v;obtain⟨O,R,U,V,W⟩:=zhh (u n b).1 k j;have H:Hid (Rd w f c g a n d):=h;have m:Hid (Qi d (zu a n) (.err 2 a[n].1.place)):=by show Qi d (zu a n) (.err 2 a[n].1.place);rw[<-Z0 b];exact .bad (by rw[Z0 b];exact k) (by rw[Z0 b];exact j)
 have l:=λi (t:Rd i f c g a n d)=>UU i f c g a n d t b 2;clear h k j;generalize zt a[n].1.kind=K at *;go_enter func206,ntmps206;go_wp2_with fail;go_region;go_wp2_with fail;have s:Below w.heap.size w (w.alloc (.cells #[I .u8 K,I J ↑a[n].1.place,.string ⟨List.toArray a[n].1.text⟩,.slice o a[n].1.spans.length p] 237)).drew:=(zc _ _).drew;refine(l _ (H.out.below s)).mono ?_;rintro e X⟨rfl,q,rfl⟩;clear l;go_wp2_with fail;go_ret2;exact⟨_,m.out,(Kp.of (zc _ _)).drewN _,rfl,n,(H.out.below (zc _ _)).drewN _⟩
theorem zhc(w:World)(b c f:Nat)(a:List (Tok×Value))(n d:Nat)(h:Rd w b c f a n d)(g:QE a)(i:n<a.length)(hd:d<=6)(l:YJ b c f a (a.length-n-1)):Calls P 206 #[.pointer (S ⟨b,0,N⟩)] w λe o=>K8 w b c f a n d e o:=by
 cases k:zU a[n].1 with
 |some m=>exact zhf w b c f a n d h g i m k
 |none=>
  by_cases j:a[n].1.kind=.sign 40;·exact zhe w b c f a n d h g i hd j l
  ·exact zhd w b c f a n d h g i k j
theorem KN{k:TK}(d:Qm k){c:UInt8}(a:33<=c.toNat)(h:(c.toNat:Int)=zt k):k=.sign c:=by
 cases k with
 |sign b=>congr 1;apply UInt8.toNat_inj.1;simp only[zt]at h;omega|_=>simp only[zt]at h;omega
theorem zfg{b:List (Tok×Value)}{n:Nat}(e:n<b.length)(i:QE b):(QJ [38,33] (zt b[n].1.kind)=true->∃a:UInt8,zt b[n].1.kind=a.toNat/\Z9 (zu b n)=(a,zu b (n+1))/\n+1<b.length)/\(QJ [38,33] (zt b[n].1.kind)=false->Z9 (zu b n)=(0,zu b n)):=by
 obtain⟨g,f⟩:=i n e;constructor
 ·intro h;simp only[QJ,List.any_cons,List.any_nil,Bool.or_false,Bool.or_eq_true,beq_iff_eq]at h;rcases h with h|h;·have d:=KN g (by decide) h;refine⟨38,h.symm,?_,f (by rw[d];rfl)⟩;unfold Z9;rw[Z0 e,d,Qy e];rfl
  ·have d:=KN g (by decide) h;refine⟨33,h.symm,?_,f (by rw[d];rfl)⟩;unfold Z9;rw[Z0 e,d,Qy e];rfl
 ·intro h;simp only[QJ,List.any_cons,List.any_nil,Bool.or_false,Bool.or_eq_false_iff,beq_eq_false_iff_ne]at h;unfold Z9;rw[Z0 e];cases d:b[n].1.kind with
  |sign c=>
   rw[d]at h;simp only[zt]at h;simp only[];rw[if_neg];rintro(rfl|rfl);·exact h.1 rfl
   ·exact h.2 rfl
  |_=>rfl
theorem zfh{b:List (Tok×Value)}{n:Nat}(e:n<b.length)(i:QE b):(QJ [63,42,43] (zt b[n].1.kind)=true->∃a:UInt8,zt b[n].1.kind=a.toNat/\Zg (zu b n)=(a,zu b (n+1))/\n+1<b.length)/\(QJ [63,42,43] (zt b[n].1.kind)=false->Zg (zu b n)=(0,zu b n)):=by
 obtain⟨g,f⟩:=i n e;constructor
 ·intro h;simp only[QJ,List.any_cons,List.any_nil,Bool.or_false,Bool.or_eq_true,beq_iff_eq]at h;rcases h with h|h|h;·have d:=KN g (by decide) h;refine⟨63,h.symm,?_,f (by rw[d];rfl)⟩;unfold Zg;rw[Z0 e,d,Qy e];rfl
  ·have d:=KN g (by decide) h;refine⟨42,h.symm,?_,f (by rw[d];rfl)⟩;unfold Zg;rw[Z0 e,d,Qy e];rfl
  ·have d:=KN g (by decide) h;refine⟨43,h.symm,?_,f (by rw[d];rfl)⟩;unfold Zg;rw[Z0 e,d,Qy e];rfl
 ·intro h;simp only[QJ,List.any_cons,List.any_nil,Bool.or_false,Bool.or_eq_false_iff,beq_eq_false_iff_ne]at h;unfold Zg;rw[Z0 e];cases d:b[n].1.kind with
  |sign c=>
   rw[d]at h;simp only[zt]at h;simp only[];rw[if_neg];rintro(rfl|rfl|rfl);·exact h.1 rfl
   ·exact h.2.1 rfl
   ·exact h.2.2 rfl
  |_=>rfl
def zaS(f:List Tok->UInt8×List Tok)(w:World)(g i j:Nat)(c:List (Tok×Value))(n d:Nat)(e:Ending)(h:World):Prop:=∃(a:UInt8) (b:Nat),e=.returned (I .u8 a.toNat)/\f (zu c n)=(a,zu c b)/\n<=b/\b<c.length/\Rd h g i j c b d/\Kp g w.heap.size w h
theorem ziH(w:World)(g l m:Nat)(b:List (Tok×Value))(n d:Nat)(h:Rd w g l m b n d)(y:QE b)(k:n<b.length)(f:Nat)(t:w.cell? ⟨f,0,N⟩=S (I .u8 38))(u:w.cell? ⟨f,1,N⟩=S (I .u8 33)):Calls P 205 #[.pointer (S ⟨g,0,N⟩),.slice (S ⟨f,0,N⟩) 2 2] w λe p=>zaS Z9 w g l m b n d e p:=by
 refine(zcJ w g l m b n d h k _ rfl [38,33] f (by decide) ?_).mono ?_
 ·intro i z;match i,z with
  |0,_=>exact t|1,_=>exact u
 rintro e p⟨B,A,o⟩;obtain⟨v,x⟩:=zfg k y;cases c:QJ [38,33] (zt b[n].1.kind)with
 |true=>obtain⟨a,q,r,s⟩:=v c;obtain⟨rfl,j⟩:=B c;exact⟨a,n+1,by rw[q],r,by omega,s,j,o⟩
 |false=>obtain⟨rfl,j⟩:=A c;exact⟨0,n,rfl,x c,by omega,k,j,o⟩
theorem ziI(w:World)(g l m:Nat)(b:List (Tok×Value))(n d:Nat)(h:Rd w g l m b n d)(z:QE b)(k:n<b.length)(c:Nat)(t:w.cell? ⟨c,0,N⟩=S (I .u8 63))(u:w.cell? ⟨c,1,N⟩=S (I .u8 42))(v:w.cell? ⟨c,2,N⟩=S (I .u8 43)):Calls P 205 #[.pointer (S ⟨g,0,N⟩),.slice (S ⟨c,0,N⟩) 3 3] w λe p=>zaS Zg w g l m b n d e p:=by
 refine(zcJ w g l m b n d h k _ rfl [63,42,43] c (by decide) ?_).mono ?_
 ·intro i A;match i,A with
  |0,_=>exact t|1,_=>exact u|2,_=>exact v
 rintro e p⟨D,B,o⟩;obtain⟨x,y⟩:=zfh k z;cases f:QJ [63,42,43] (zt b[n].1.kind)with
 |true=>obtain⟨a,q,r,s⟩:=x f;obtain⟨rfl,j⟩:=D f;exact⟨a,n+1,by rw[q],r,by omega,s,j,o⟩
 |false=>obtain⟨rfl,j⟩:=B f;exact⟨0,n,rfl,y f,by omega,k,j,o⟩
abbrev zaE:Value:=.agg #[I .u8 0,.nilIface,I .u8 0]
def zdG(w:World)(h i j:Nat)(f:List (Tok×Value))(n d:Nat)(e:Ending)(g:World):Res Term->Prop
 | .ok (.mk a p b) l=>∃c v,l=zu f c/\n<c/\c<f.length/\e=.returned (.tuple #[.agg #[I .u8 a.toNat,v,I .u8 b.toNat],.nilIface])/\zp g (w.heap.size<= ·) p v/\Rd g h i j f c d
 | .err k p=>U2 h i j f d zaE k p e g
def zdH(w:World)(b g h:Nat)(a:List (Tok×Value))(n d:Nat)(e:Ending)(f:World):Prop:=∃c,QF d (zu a n) c/\Kp b w.heap.size w f/\zdG w b g h a n d e f c
theorem zp.oneCell{w:World}{A:Nat->Prop}{p:zC}{v:Value}(h:zp w A p v):∃t x,v=.iface t x:=by
 cases p<;>simp only[zp]at h;·exact⟨_,_,h.1⟩
 ·exact⟨_,_,h⟩
 ·obtain⟨_,h,_⟩:=h;exact⟨_,_,h⟩
 ·exact⟨_,_,h⟩
 ·obtain⟨_,_,h,_⟩:=h;exact⟨_,_,h⟩
theorem VL{w j:World}{d b:Nat}{e f:TypeId}{i:Nat}{v:Value}{n:Nat}{k:List Value}{l:Array Value}{o:Nat×Nat}(h:w.ownsRow d e i v n k)(p:∀g,g≠b->g<w.heap.size->j.heap[g]?=w.heap[g]?)(c:w.heap[b]?=S (.cells l f o))(r:e≠f):j.ownsRow d e i v n k:=by
 refine Z6 h (λg a=>p g ?_ (h.lt g a).2);intro m;subst m;rcases h.2 with⟨rfl,_⟩|⟨u,s,t,rfl,_,q,_⟩;·simp[Value.ownBlock]at a
 ·simp[Value.ownBlock]at a;subst a;rw[q]at c;simp at c;exact r c.2.1
theorem Rd.other{w m:World}{i k l b:Nat}{j:List (Tok×Value)}{n d:Nat}{o:Array Value}{q:Nat×Nat}{a:TypeId}(h:Rd w i k l j n d)(c:∀g,g≠b->g<w.heap.size->m.heap[g]?=w.heap[g]?)(f:w.heap[b]?=S (.cells o a q))(r:183≠a)(s:237≠a)(t:313≠a):Rd m i k l j n d:=by
 refine⟨?_,⟨VL h.2.1.1 c f s,λp u=>VL (h.2.1.2 p u) c f t⟩,h.2.2⟩;rw[c i ?_ h.lt];·exact h.1
 ·intro e;subst e;have:=h.1;rw[f]at this;simp at this;exact r this.2.1.symm
theorem zk(w:World)(o:Obj):(w.alloc o).heap[w.heap.size]?=S o:=by show(w.heap.push o)[w.heap.size]?=_;simp
theorem zm(w:World)(o:Obj){b:Nat}(h:b<w.heap.size):(w.alloc o).heap[b]?=w.heap[b]?:=Below.heap_alloc w o b h
abbrev Yp:Obj:=.cells #[I .u8 0,.nilIface,I .u8 0] 249
abbrev Ub:Obj:=.cells #[I .u8 38,I .u8 33] 234
abbrev Uj:Obj:=.cells #[I .u8 63,I .u8 42,I .u8 43] 234
theorem qz.form{w:World}{i k l:Nat}{b:List (Tok×Value)}{n d:Nat}{e:Ending}{c:World}{g:zC}{j:List Tok}(h:qz w i k l b n d e c (.ok g j)):∃a t x,j=zu b a/\n<a/\a<b.length/\e=.returned (.tuple #[.iface t x,.nilIface])/\zp c (w.heap.size<= ·) g (.iface t x)/\Rd c i k l b a d:=by obtain⟨a,v,m,o,p,q,f,r⟩:=h;obtain⟨t,x,rfl⟩:=zp.oneCell f;exact⟨a,t,x,m,o,p,q,f,r⟩
theorem zj7(w:World)(f m o:Nat)(c:List (Tok×Value))(n j:Nat)(h:Rd w f m o c n j)(k:QE c)(hn:n<c.length)(hd:j<=6)(R:Nat)(s:c.length-n<=R)(hC:∀R',R'<R->YJ f m o c R'):Calls P 196 #[.pointer (S ⟨f,0,N⟩)] w λe z=>zdH w f m o c n j e z:=by
 have aB:=h.lt;have U:Below w.heap.size w ((w.alloc Yp).alloc Ub):=(zc _ _).alloc (by simp) _;have E:=ziH _ f m o c n j (h.below U) k hn (w.heap.size+1) (by simp) (by simp);have a1:Hid (Below w.heap.size w ((w.alloc Yp).alloc Ub)):=U;have a0:((w.alloc Yp).alloc Ub).heap.size=w.heap.size+2:=by simp
 have ad:((w.alloc Yp).alloc Ub).heap[w.heap.size]?=S Yp:=by rw[zm _ _ (by simp)];exact zk _ _
 have ab:∀z q,Rd z f m o c q j->n<=q->q<c.length->Calls P 206 #[.pointer (S ⟨f,0,N⟩)] z λe aw=>K8 z f m o c q j e aw:=λz q hr h1 h2=>zhc z f m o c q j hr k h2 hd (hC _ (by omega));clear h U hC;go_enter func196,ntmps196;go_wp2_with fail;refine E.mono ?_;rintro e A⟨a,q,rfl,Y,an,ap,X,G⟩;have ae:A.heap[w.heap.size]?=S Yp:=by rw[G.block _ (by rw[a0];omega) (by omega)];exact ad
 have au:=G.size;rw[a0]at au;have a5:Kp f w.heap.size w A:=(Kp.of a1.out).trans (G.mono (by rw[a0];omega));have aa:=ab A q X an ap;have ax:Hid (Rd A f m o c q j):=X;have ai:Hid (Kp f w.heap.size w A):=a5;have O:Hid (Z9 (zu c n)=(a,zu c q)):=Y;clear G ad E ab a1 X a5 Y;go_wp2_with fail;refine aa.mono ?_;rintro e i⟨ag,hP,J,W⟩;have K:i.heap[w.heap.size]?=S Yp:=by rw[J.block _ (by omega) (by omega)];exact ae
 have aC:=J.size;have a6:Kp f w.heap.size w i:=ai.out.trans (J.mono (by omega));clear aa ae J;have q3:=z8 K;have f3:=zi K;have ao:w.heap.size<i.heap.size:=by omega
 have HP:Hid (Qi j (zu c q) ag):=hP;have a2:Hid (Kp f w.heap.size w i):=a6;have a3:Hid (i.heap[w.heap.size]?=S Yp):=K;clear hP a6 K;cases ag with
 |err er p=>obtain⟨rfl,y,s⟩:=W;simp only[zS];have H:Hid (Rd i f m o c y j):=s;clear s;go_wp2_with fail;refine bodyPost_ret (v:=.tuple #[zaE,zS er p]) (by simp[results,results196,go_sem,zS,q3]) rfl ?_;refine⟨.err er p,.err (by rw[O.out];exact HP.out),((a2.out.setCell (Nat.le_refl _) _).setCell (Nat.le_refl _) _).setCell (Nat.le_refl _) _,rfl,y,?_⟩;refine H.out.other (b:=w.heap.size) (λg k _=> ?_) a3.out (by decide) (by decide) (by decide);rw[Below.heap_setCell _ _ _ _ k,Below.heap_setCell _ _ _ _ k,Below.heap_setCell _ _ _ _ k]
 |ok D aD=>
  obtain⟨y,t,x,rfl,az,aq,rfl,a9,s⟩:=W.form;clear W;have V:Below i.heap.size i (i.alloc Uj):=zc _ _;have af:(i.alloc Uj).heap.size=i.heap.size+1:=by simp
  have E:=ziI (i.alloc Uj) f m o c y j (s.below V) k aq i.heap.size (by simp) (by simp) (by simp);have ak:Hid (zp i (A.heap.size<= ·) D (.iface t x)):=a9;have H3:Hid (Rd i f m o c y j):=s;clear a9 s;go_wp2_with fail;refine E.mono ?_;rintro e r⟨F,M,rfl,hb,ay,ar,a8,B⟩;rw[af]at B;have L:r.heap[w.heap.size]?=S Yp:=by rw[B.block _ (by omega) (by omega),zm _ _ ao];exact a3.out
  have av:=B.size;rw[af]at av;have a7:Kp f w.heap.size w r:=(a2.out.alloc (by omega) Uj).trans (B.mono (by omega));have q4:=z8 L;have f4:=zi L;have aA:w.heap.size<r.heap.size:=by omega
  have ah:Hid (Kp f i.heap.size i r):=(Kp.of V).trans (B.mono (by omega));have HB:Hid (Zg (zu c y)=(F,zu c M)):=hb;have H4:Hid (Rd r f m o c M j):=a8;have aj:Hid (Kp f w.heap.size w r):=a7;have a4:Hid (r.heap[w.heap.size]?=S Yp):=L;clear hb a8 a7 L E V B q3 f3;go_wp2_with fail;refine bodyPost_ret (v:=.tuple #[.agg #[I .u8 a.toNat,.iface t x,I .u8 F.toNat],.nilIface]) (by simp[results,results196,go_sem,q4]) rfl ?_;have Z:∀g,g≠w.heap.size->g<r.heap.size->(((r.setCell ⟨w.heap.size,0,N⟩ (I .u8 a.toNat)).setCell ⟨w.heap.size,1,N⟩ (.iface t x)).setCell ⟨w.heap.size,2,N⟩ (I .u8 F.toNat)).heap[g]?=r.heap[g]?:=by intro g k _;rw[Below.heap_setCell _ _ _ _ k,Below.heap_setCell _ _ _ _ k,Below.heap_setCell _ _ _ _ k]
  have am:QF j (zu c n) (.ok (.mk a D F) (zu c M)):=by have:=QF.ok (d:=j) (ts:=zu c n) (p:=D) (rest:=zu c y) (by rw[O.out];exact HP.out);rw[O.out,HB.out]at this;exact this
  refine⟨_,am,((aj.out.setCell (Nat.le_refl _) _).setCell (Nat.le_refl _) _).setCell (Nat.le_refl _) _,M,_,rfl,by omega,ar,rfl,?_,?_⟩;·have al:=zp.kept (KY H3.out.1 ah.out (λg k=>by omega)) D _ ak.out;have hs:Sm (A.heap.size<= ·) r _:=⟨λu l hl=>VL hl Z a4.out (by decide),λg k Y=>Z g (by omega) k⟩;exact zp.mono (λg _ k=>by omega) D _ (zp.kept hs D _ al)
  ·exact H4.out.other (b:=w.heap.size) Z a4.out (by decide) (by decide) (by decide)
theorem Zr{w:World}{c:Nat}{e:TypeId}{f:Nat}{v:Value}{n:Nat}{i:List Value}(h:w.ownsRow c e f v n i){g:Nat}(b:v.ownBlock=S g):∃a,w.heap[g]?=S (.cells a e (0,0)):=by
 rcases h.2 with⟨rfl,_⟩|⟨k,j,a,rfl,_,d,_⟩;·simp[Value.ownBlock]at b
 ·simp[Value.ownBlock]at b;subst b;exact⟨a,d⟩
theorem zah{w j:World}{c l:Nat}{a e:TypeId}{i s:Nat}{u v:Value}{f n:Nat}{k t:List Value}(h:w.ownsRow c a i u f k)(r:w.ownsRow l e s v n t)(p:∀g,S g≠v.ownBlock->g<w.heap.size->j.heap[g]?=w.heap[g]?)(q:a≠e):j.ownsRow c a i u f k:=by refine Z6 h (λg d=>p g ?_ (h.lt g d).2);intro m;obtain⟨x,o⟩:=Zr h d;obtain⟨y,b⟩:=Zr r m.symm;rw[o]at b;simp at b;exact q b.2
theorem Rd.but{w m:World}{f j l o:Nat}{i:List (Tok×Value)}{k d:Nat}{e:TypeId}{u:Nat}{v:Value}{n:Nat}{x:List Value}(h:Rd w f j l i k d)(c:w.ownsRow o e u v n x)(b:∀g,S g≠v.ownBlock->g<w.heap.size->m.heap[g]?=w.heap[g]?)(r:183≠e)(a:237≠e)(s:313≠e):Rd m f j l i k d:=by
 refine⟨?_,⟨zah h.2.1.1 c b a,λp t=>zah (h.2.1.2 p t) c b s⟩,h.2.2⟩;rw[b f ?_ h.lt];·exact h.1
 ·intro q;obtain⟨y,a⟩:=Zr c q.symm;have:=h.1;rw[a]at this;simp at this;exact r this.2.symm
theorem KX{w b:World}{c:Nat}{e:TypeId}{l:Nat}{v:Value}{n:Nat}{m:List Value}(k:w.ownsRow c e l v n m)(a:∀g,S g≠v.ownBlock->g<w.heap.size->b.heap[g]?=w.heap[g]?)(d:313≠e){A:Nat->Prop}(f:∀g,A g->S g≠v.ownBlock):Sm A w b:=⟨λ_ _ h=>zah h k a d,λg j i=>a g (f g i) j⟩
theorem zbF{a c:World}{d e:Obj}{b:Option Nat}(i:((a.alloc d).alloc e).grownBy c b):∀g,S g≠b->g<a.heap.size->c.heap[g]?=a.heap[g]?:=by intro g f h;rw[i.block g (by simp;omega) f,zm _ _ (by simp;omega),zm _ _ h]
theorem zfa{a c:World}{d:Obj}{b:Option Nat}(h:(a.alloc d).grownBy c b):∀g,S g≠b->g<a.heap.size->c.heap[g]?=a.heap[g]?:=by intro g e f;rw[h.block g (by simp;omega) e,zm _ _ f]
def US(s:Seq):Res Seq->Res Seq:=Res.map (s++ ·)
def zdD(w:World)(h i j:Nat)(c:List (Tok×Value))(n d:Nat)(e:Ending)(f:World):Res Seq->Prop
 | .ok s m=>∃b a l g,m=zu c b/\n<=b/\b<c.length/\e=.returned (.tuple #[.slice a l g,.nilIface])/\QX f (w.heap.size<= ·) s (.slice a l g)/\Rd f h i j c b d
 | .err k p=>U2 h i j c d (.slice N 0 0) k p e f
def zdE(w:World)(b g h:Nat)(a:List (Tok×Value))(n d:Nat)(e:Ending)(f:World):Prop:=∃c,ZW d (zu a n) c/\Kp b w.heap.size w f/\zdD w b g h a n d e f c
structure Vc(w:World)(rb tb tc:Nat)(ps:List (Tok×Value))(n d k:Nat)(s:Seq)(vs:List Value)(v:Value)(wr:World):Prop where
 le:n<=k
 lt:k<ps.length
 len:s.length<=k-n
 own:wr.ownsRow w.heap.size 249 3 v s.length (QM s vs)
 terms:zD wr (λg=>w.heap.size<=g/\some g≠v.ownBlock) s vs
 rd:Rd wr rb tb tc ps k d
 kp:Kp rb w.heap.size w wr
 goes:∀r,ZW d (zu ps k) r->ZW d (zu ps n) (US s r)
theorem Vc.next{w:World}{q G H:Nat}{l:List (Tok×Value)}{n d k:Nat}{s:Seq}{i:List Value}{v:Value}{wr:World}(h:Vc w q G H l n d k s i v wr)(a2:q<w.heap.size){a b:UInt8}{j:zC}{x:Value}{o:Nat}{f u:World}{t:Value}{J K:Obj}(N:zX d (zu l k)=true)(M:QF d (zu l k) (.ok (.mk a j b) (zu l o)))(hk:k<o)(a0:o<l.length)(z:Kp q wr.heap.size wr f)(V:zp f (wr.heap.size<= ·) j x)(W:Rd f q G H l o d)(ho:u.ownsRow w.heap.size 249 3 t (s.length+1) (QM s i++[I .u8 a.toNat,x,I .u8 b.toNat]))(c:((f.alloc J).alloc K).grownBy u v.ownBlock)(X:t.ownBlock=v.ownBlock\/t.ownBlock=S (f.heap.size+1+1)):Vc w q G H l n d o (s++[.mk a j b]) (i++[x]) t u:=by
 have a3:=z.size;have a1:=h.kp.size;have D:f.ownsRow w.heap.size 249 3 v s.length (QM s i):=JT h.own h.rd.1 (by decide) z;have B:=zbF c;have Z:=c.size;simp at Z;have R:∀g,v.ownBlock=S g->g<wr.heap.size:=λg c=>(h.own.lt g c).2;have L:∀g,g<f.heap.size->w.heap.size<=g->S g≠v.ownBlock->(w.heap.size<=g/\S g≠t.ownBlock):=by
  intro g y m U;refine⟨m,?_⟩;rcases X with e|e<;>rw[e];·exact U
  ·simp;omega
 refine⟨by have:=h.le;omega,a0,by have:=h.len;have:=h.le;simp;omega,?_,?_,?_,?_,?_⟩;·rw[zj6 _ _ (zD.length h.terms)];simpa using ho
 ·refine zD.snoc ?_ ?_;·simp only[Zk];have E:zp f (λg=>wr.heap.size<=g/\g<f.heap.size) j x:=zp.mono (λg y m=>⟨m,y⟩) j x V;have F:zp u (λg=>wr.heap.size<=g/\g<f.heap.size) j x:=zp.kept (KX D B (by decide) (λg c e=>by have:=R g e.symm;omega)) j x E;exact zp.mono (λg _ c=>L g c.2 (by omega) (λe=>by have:=R g e.symm;omega)) j x F
  ·have p0:=zD.kept (KY (A:=λg=>w.heap.size<=g/\S g≠v.ownBlock) h.rd.1 z (λg c=>by omega)) s i h.terms;have E:zD f (λg=>(w.heap.size<=g/\S g≠v.ownBlock)/\g<f.heap.size) s i:=zD.mono (λg y m=>⟨m,y⟩) s i p0;have F:zD u (λg=>(w.heap.size<=g/\S g≠v.ownBlock)/\g<f.heap.size) s i:=zD.kept (KX D B (by decide) (λg c=>c.1.2)) s i E;exact zD.mono (λg _ c=>L g c.2 c.1.1 c.1.2) s i F
 ·exact W.but D B (by decide) (by decide) (by decide)
 ·exact((((h.kp.trans (z.mono a1))).alloc (by omega) J).alloc (by simp;omega) K).grown c (by simp;omega) (λg Y=>(h.own.lt g Y).1)
 ·intro r O;cases r with
  |ok s' a4=>exact(by simpa[US,Res.map]using h.goes _ (.cons N M O))|err e p=>exact(by simpa[US,Res.map]using h.goes _ (.later N M O))
theorem zee(w:World)(x y z:Value)(t:TypeId):∀j q,[x,y,z][j]?=S q->(w.alloc (.cells #[x,y,z] t)).cell? ((⟨w.heap.size,0,N⟩:Addr).add j)=S q:=by
 intro j q a;match j,a with
 |0,a=>simp at a;subst a;simp[Addr.add]|1,a=>simp at a;subst a;simp[Addr.add]|2,a=>simp at a;subst a;simp[Addr.add]
theorem infoTerm:(prog.info? 249).map (λi=>(i.zero,i.size,i.bytes))=S (S (.agg #[I .u8 0,.nilIface,I .u8 0]),3,32):=by kernel_rfl
theorem ziD(y:World)(f i j:Nat)(c:List (Tok×Value))(n d:Nat)(h:Rd y f i j c n d)(D:QE c)(hn:n<c.length)(hd:d<=6)(R:Nat)(hR:c.length-n<=R)(hC:∀R',R'<R->YJ f i j c R'):Calls P 184 #[.pointer (S ⟨f,0,N⟩)] y λe A=>zdE y f i j c n d e A:=by
 obtain⟨i0,hi,ag,ah,ai⟩:=info_parts infoTerm;have ad:=h.lt;have hl:=h.2.2.1;have a3:=λA k (J:Rd A f i j c k d) (W:k<c.length)=>zdU A f i j c k d J D W hd;have Y:=λA k (J:Rd A f i j c k d) (W:k<c.length) (X:n<=k)=>zj7 A f i j c k d J D W hd R (by omega) hC;have H:Hid (Rd y f i j c n d):=h;clear h hC;go_enter func184,ntmps184;go_wp2_with fail;go_loopg[4] (c.length-n) (λg v wr=>∃k s z,g=c.length-k/\Vc y f i j c n d k s z v wr);case atStart=>refine⟨n,[],[],rfl,Nat.le_refl _,hn,by simp,World.ownsRow_nil _ _ _ _,by simp[zD],H.out,Kp.refl _ _ _,?_⟩;intro r J;cases r<;>exact J
 case round=>
  obtain⟨k,s,z,rfl,o⟩:=hrel;have F:=a3 wr k o.rd o.lt;have a5:=o.lt;have X:=o.le;have aj:=o.len;have af:=o.kp.size;have l:Hid (Vc y f i j c n d k s z u4 wr):=o;have G:=o.own;obtain⟨a0,c0,hv⟩:=zl G;subst hv;clear o a3;cases B:zX d (zu c k)with
  |false=>
   rw[B]at F;have K:Hid (zX d (zu c k)=false):=B;clear B Y G;go_wp2_with(first|(go_at_call 195;refine F.mono ?_;rintro e m⟨rfl,q,rfl⟩));go_ret2;have L:=l.out.goes _ (.nil K.out);simp only[US,Res.map,List.append_nil]at L;refine⟨_,L,l.out.kp.drewN q,k,a0,s.length,c0,rfl,X,a5,rfl,⟨z,⟨?_,?_⟩,?_⟩,l.out.rd.drewN q⟩;·exact Zn l.out.own (Nat.zero_le _)
   ·intro g D;exact(l.out.own.lt g D).1
   ·have h1:zD wr (y.heap.size<= ·) s z:=zD.mono (λg _ D=>D.1) s z l.out.terms;exact zD.kept (w:=wr) (w':=wr.drewN q) ⟨λ_ _ h=>h,λ_ _ _=>rfl⟩ s z h1
  |true=>
   rw[B]at F;have K:Hid (zX d (zu c k)=true):=B;have ht:=λq=>Y (wr.drewN q) k (l.out.rd.drewN q) a5 X;clear B Y;go_wp2_with(first|(go_at_call 195;refine F.mono ?_;rintro e m⟨rfl,q,rfl⟩));refine(ht q).mono ?_;rintro e m⟨a8,hP,U,hE⟩;have ae:=U.size;have a1:Kp f wr.heap.size wr m:=(Kp.drewN (Kp.refl _ _ _) q).trans U;clear U ht F;simp only[World.heap_drewN]at ae;have HP:Hid (QF d (zu c k) a8):=hP;have O:Hid (Kp f wr.heap.size wr m):=a1;clear hP a1;cases a8 with
   |err er p=>obtain⟨rfl,n',E⟩:=hE;simp only[zS,zaE];have M:Hid (Rd m f i j c n' d):=E;clear E G;go_wp2_with fail;go_ret2;have L:=l.out.goes _ (.err K.out HP.out);exact⟨_,L,(l.out.kp.trans (O.out.mono af)).alloc (by omega) _,rfl,n',M.out.below (zc _ _)⟩
   |ok t ak=>
    obtain⟨a,pc,b⟩:=t;obtain⟨Z,x,rfl,ab,aa,rfl,V,E⟩:=hE;obtain⟨tt,xx,rfl⟩:=zp.oneCell V;have a9:Hid (zp m (wr.heap.size<= ·) pc (.iface tt xx)):=V;have M:Hid (Rd m f i j c Z d):=E;have a7:m.ownsRow y.heap.size 249 3 (.slice a0 s.length c0) s.length (QM s z):=JT G l.out.rd.1 (by decide) O.out;clear V E G;go_wp2_with(first|(at_builtin;refine wpList_append_own_at _ rfl _ _ 215 rfl (y.heap.size) 249 i0 _ 3 32 underlying215 hi ag ah ai rfl (by decide) _ _ _ rfl ((a7.alloc _).alloc _) ⟨m.heap.size+1,0,N⟩ 1 1 [I .u8 a.toNat,.iface tt xx,I .u8 b.toNat] rfl rfl ?c1 ?c2 ?c3 ?c4 ?c5 ?_));case c1=>rw[<-World.size_alloc m (.cells #[I .u8 a.toNat,.iface tt xx,I .u8 b.toNat] 249)];exact zee _ _ _ _ _
    case c2=>intro u hu;simp at hu;rcases hu with rfl|rfl|rfl<;>rfl
    case c3=>unfold maxLen;omega
    case c4=>omega
    case c5=>simp;omega
    intro v' w5 a6 a4 _ a2;have hN:=l.out.next ad K.out HP.out ab aa O.out a9.out M.out a6 a4 a2;clear a6 a4 a2 a7;go_wp2_with fail;go_roundg (c.length-Z);case measure=>omega
    case rel=>exact⟨Z,_,_,rfl,hN⟩
def zai(c:Z5):Res Z5->Res Z5:=Res.map (c++ ·)
structure V5(w:World)(rb tb tc:Nat)(ps:List (Tok×Value))(n d k:Nat)(c:Z5)(us:List Value)(v:Value)(wr:World):Prop where
 le:n<=k
 lt:k<ps.length
 len:c.length<=k-n
 own:wr.ownsRow w.heap.size 215 1 v c.length us
 seqs:zA wr (λg=>w.heap.size<=g/\some g≠v.ownBlock) c us
 rd:Rd wr rb tb tc ps k d
 kp:Kp rb w.heap.size w wr
 goes:∀r,Z8 d (zu ps k) r->Z8 d (zu ps n) (zai c r)
theorem V5.push{w:World}{j z B:Nat}{y:List (Tok×Value)}{n d k:Nat}{c:Z5}{f:List Value}{v:Value}{wr:World}(h:V5 w j z B y n d k c f v wr)(V:j<w.heap.size){s:Seq}{x:Value}{G:Nat}{b i:World}{l:Value}{D:Obj}(p:Kp j wr.heap.size wr b)(J:QX b (wr.heap.size<= ·) s x)(K:Rd b j z B y G d)(O:i.ownsRow w.heap.size 215 1 l (c.length+1) (f++[x]))(a:(b.alloc D).grownBy i v.ownBlock)(L:l.ownBlock=v.ownBlock\/l.ownBlock=S (b.heap.size+1)):i.ownsRow w.heap.size 215 1 l (c++[s]).length (f++[x])/\zA i (λg=>w.heap.size<=g/\S g≠l.ownBlock) (c++[s]) (f++[x])/\Rd i j z B y G d/\Kp j w.heap.size w i:=by
 have W:=p.size;have R:=h.kp.size;have r:b.ownsRow w.heap.size 215 1 v c.length f:=JT h.own h.rd.1 (by decide) p;have q:=zfa a;have N:=a.size;simp at N;have F:∀g,v.ownBlock=S g->g<wr.heap.size:=λg a=>(h.own.lt g a).2;have E:∀g,g<b.heap.size->w.heap.size<=g->S g≠v.ownBlock->(w.heap.size<=g/\S g≠l.ownBlock):=by
  intro g o m H;refine⟨m,?_⟩;rcases L with e|e<;>rw[e];·exact H
  ·simp;omega
 refine⟨by simpa using O,?_,?_,?_⟩
 ·refine zA.snoc ?_ ?_;·have t:QX b (λg=>wr.heap.size<=g/\g<b.heap.size) s x:=J.mono (λg o m=>⟨m,o⟩);have u:QX i (λg=>wr.heap.size<=g/\g<b.heap.size) s x:=t.kept (KX r q (by decide) (λg a e=>by have:=F g e.symm;omega));exact u.mono (λg _ a=>E g a.2 (by omega) (λe=>by have:=F g e.symm;omega))
  ·have U:=zA.kept (KY (A:=λg=>w.heap.size<=g/\S g≠v.ownBlock) h.rd.1 p (λg a=>by omega)) c f h.seqs;have t:zA b (λg=>(w.heap.size<=g/\S g≠v.ownBlock)/\g<b.heap.size) c f:=zA.mono (λg o m=>⟨m,o⟩) c f U;have u:zA i (λg=>(w.heap.size<=g/\S g≠v.ownBlock)/\g<b.heap.size) c f:=zA.kept (KX r q (by decide) (λg a=>a.1.2)) c f t;exact zA.mono (λg _ a=>E g a.2 a.1.1 a.1.2) c f u
 ·exact K.but r q (by decide) (by decide) (by decide)
 ·exact(((h.kp.trans (p.mono R))).alloc (by omega) D).grown a (by simp;omega) (λg M=>(h.own.lt g M).1)
theorem infoSeq:(prog.info? 215).map (λi=>(i.zero,i.size,i.bytes))=S (S (.slice N 0 0),1,24):=by kernel_rfl
theorem zfH{k:TK}(a:Qm k):(k=.sign 47/\zt k=47)\/(k≠.sign 47/\(zt k !=47)=true):=by
 by_cases h:k=.sign 47;·left;subst h;exact⟨rfl,rfl⟩
 ·right;refine⟨h,?_⟩;rw[bne_iff_ne];intro e;exact h (KN a (c:=47) (by decide) (by rw[e];rfl))
theorem zem(f i j:Nat)(a:List (Tok×Value))(x:QE a)(R:Nat)(hC:∀R',R'<R->YJ f i j a R'):YJ f i j a R:=by
 intro m n d h hn hR af;obtain⟨i0,hi,ak,al,am⟩:=info_parts infoSeq;have ai:=h.lt;have hl:=h.2.2.1;have ab:=λw' k (A:Rd w' f i j a k d) (hk:k<a.length) (ah:n<=k)=>ziD w' f i j a k d A x hk af R (by omega) hC;have H:Hid (Rd m f i j a n d):=h;clear h hC;go_enter func163,ntmps163;go_wp2_with fail;go_loopg[4] (a.length-n) (λg v wr=>∃k c t,g=a.length-k/\V5 m f i j a n d k c t v wr);case atStart=>refine⟨n,[],[],rfl,Nat.le_refl _,hn,by simp,World.ownsRow_nil _ _ _ _,by simp[zA],H.out,Kp.refl _ _ _,?_⟩;intro r A;cases r<;>exact A
 case round=>
  obtain⟨k,c,t,rfl,o⟩:=hrel;have hs:=ab wr k o.rd o.lt o.le;have ap:=o.lt;have ah:=o.le;have ao:=o.len;have aj:=o.kp.size;have z:Hid (V5 m f i j a n d k c t u4 wr):=o;have a3:=o.own;clear o ab;go_wp2_with fail;refine hs.mono ?_;rintro e L⟨ad,hP,a0,hE⟩;have ar:=a0.size;have Y:Hid (ZW d (zu a k) ad):=hP;have W:Hid (Kp f wr.heap.size wr L):=a0;clear hs hP a0;cases ad with
  |err er p=>obtain⟨rfl,n',M⟩:=hE;simp only[zS];have V:Hid (Rd L f i j a n' d):=M;clear M a3;go_wp2_with fail;go_ret2;exact⟨_,z.out.goes _ (.err Y.out),z.out.kp.trans (W.out.mono aj),rfl,n',V.out⟩
  |ok s an=>
   obtain⟨b,B,E,D,rfl,aq,y,rfl,a6,M⟩:=hE;have ae:Hid (QX L (wr.heap.size<= ·) s (.slice B E D)):=a6;have V:Hid (Rd L f i j a b d):=M;have a9:L.ownsRow m.heap.size 215 1 u4 c.length t:=JT a3 z.out.rd.1 (by decide) W.out;clear a6 M a3;go_wp2_with(first|(at_builtin;refine wpList_append_own_at _ rfl _ _ 140 rfl (m.heap.size) 215 i0 _ 1 24 underlying140 hi ak al am rfl (by decide) _ _ _ rfl (a9.alloc _) ⟨L.heap.size,0,N⟩ 1 1 [.slice B E D] rfl rfl ?c1 ?c2 ?c3 ?c4 ?c5 ?_));case c1=>exact cell_one_new _ _ _
   case c2=>intro u hu;simp at hu;subst hu;rfl
   case c3=>unfold maxLen;omega
   case c4=>omega
   case c5=>simp;omega
   intro v' l a4 a8 _ a7;obtain⟨p1,p2,p3,p4⟩:=z.out.push ai W.out ae.out V.out a4 a8 a7;obtain⟨O,U,hv⟩:=zl a4;subst hv;have Z:Hid (l.ownsRow m.heap.size 215 1 (.slice O (c.length+1) U) (c++[s]).length (t++[.slice B E D])):=p1;have P2:Hid (zA l (λg=>m.heap.size<=g/\S g≠(Value.slice O (c.length+1) U).ownBlock) (c++[s]) (t++[.slice B E D])):=p2;have F:Hid (Rd l f i j a b d):=p3;have P4:Hid (Kp f m.heap.size m l):=p4;obtain⟨r0,r1,r2,rf⟩:=p3.cells;clear a4 a8 a7 a9 p1 p2 p3 p4;rcases zfH (x b y).1 with⟨G,a2⟩|⟨G,a2⟩
   ·have a1:=JA l f i j a b d F.out y 47 a2;have ag:b+1<a.length:=(x b y).2 (by rw[G];rfl);have X:Hid (a[b].1.kind=.sign 47):=G;clear G a2;go_wp2_with(first|(go_at_call 124;refine a1.mono ?_;rintro e w6⟨rfl,q,rfl⟩));have hN:V5 m f i j a n d (b+1) (c++[s]) (t++[.slice B E D]) (.slice O (c.length+1) U) ((l.setCell ⟨f,1,N⟩ (I J ((b:Int)+1))).drewN q):=by
     have a5:Kp f l.heap.size l ((l.setCell ⟨f,1,N⟩ (I J ((b:Int)+1))).drewN q):=((Kp.refl _ _ _).setRb _ _).drewN q;refine⟨by omega,ag,by simp;omega,JT Z.out F.out.1 (by decide) a5,zA.kept (KY F.out.1 a5 (λg x=>by omega)) _ _ P2.out,(F.out.set1 (b+1)).drewN q,(P4.out.setRb _ _).drewN q,?_⟩;intro r A;have hm:ZW d (zu a k) (.ok s (zu a b)):=Y.out;rw[<-Qy y]at A;have aa:(hd (zu a b)).kind=.sign 47:=by rw[Z0 y];exact X.out
     cases r with
     |ok c' an=>exact(by simpa[zai,Res.map]using z.out.goes _ (.more hm aa A))|err e p=>exact(by simpa[zai,Res.map]using z.out.goes _ (.later hm aa A))
    go_roundg (a.length-(b+1));case measure=>omega
    case rel=>exact⟨b+1,_,_,rfl,hN⟩
   ·have a1:=JA l f i j a b d F.out y _ rfl;have X:Hid (a[b].1.kind≠.sign 47):=G;clear G;generalize zt a[b].1.kind=K at *;go_wp2_with(first|(go_at_call 124;refine a1.mono ?_;rintro e w6⟨rfl,q,rfl⟩));go_ret2;have hp:=z.out.goes _ (.last Y.out (by rw[Z0 y];exact X.out));refine⟨_,hp,P4.out.drewN q,b,O,c.length+1,U,rfl,by omega,y,rfl,⟨t++[.slice B E D],⟨?_,?_⟩,?_⟩,F.out.drewN q⟩;·exact Zn Z.out (Nat.zero_le _)
    ·intro g x;exact(Z.out.lt g x).1
    ·have h1:zA l (m.heap.size<= ·) (c++[s]) (t++[.slice B E D]):=zA.mono (λg _ x=>x.1) _ _ P2.out;exact zA.kept (w:=l) (w':=l.drewN q) ⟨λ_ _ h=>h,λ_ _ _=>rfl⟩ _ _ h1
theorem zel(b c d:Nat)(a:List (Tok×Value))(e:QE a)(R:Nat):YJ b c d a R:=by
 induction R using Nat.strongRecOn with
 |ind R f=>exact zem b c d a e R f
def zdC(w:World)(g h i:Nat)(c:List (Tok×Value))(n:Nat)(e:Ending)(d:World):Res ze->Prop
 | .ok r k=>∃b a l f,k=zu c b/\n<b/\b<c.length/\e=.returned (.tuple #[.agg #[.string ⟨r.name.toArray⟩,.slice a l f],.nilIface])/\Zt d (w.heap.size<= ·) r.choice (.slice a l f)/\Rd d g h i c b 0/\r.name.length<=2000
 | .err j p=>∃z,e=.returned (.tuple #[.agg #[.string z,.slice N 0 0],zS j p])/\∃b,Rd d g h i c b 0
def qC(w:World)(b f g:Nat)(a:List (Tok×Value))(m n:Nat)(e:Ending)(d:World):Prop:=∃c,ZV m (zu a n) c/\Kp b w.heap.size w d/\zdC w b f g a n e d c
abbrev Jr:Obj:=.cells #[.string ⟨#[]⟩,.slice N 0 0] 142
theorem zfG{k:TK}(a:Qm k):(k=.name/\zt k=2)\/(k≠.name/\zt k≠2):=by
 cases k with
 |name=>left;exact⟨rfl,rfl⟩|sign c=>right;have:=KW a;refine⟨by simp,?_⟩;simp only[zt];omega|_=>right;simp[zt]
theorem zfC{k:TK}(a:Qm k):(k=.arrow/\zt k=3)\/(k≠.arrow/\zt k≠3):=by
 cases k with
 |arrow=>left;exact⟨rfl,rfl⟩|sign c=>right;have:=KW a;refine⟨by simp,?_⟩;simp only[zt];omega|_=>right;simp[zt]
theorem VB{a:Nat}{W c:World}(f:Kp a W.heap.size W c){b:Nat}(d:b<W.heap.size)(e:b≠a):c.heap[b]?=W.heap[b]?:=f.block b d e
theorem ziu(w:World)(c k l:Nat)(a:List (Tok×Value))(m n:Nat)(h:Rd w c k l a n 0)(i:n<a.length)(y:a[n].1.kind≠.name)(s:zt a[n].1.kind≠2):Calls P 123 #[.pointer (S ⟨c,0,N⟩),I J m] w λe D=>qC w c k l a m n e D:=by
 have H:=h.lt;have o:=qQ (w.alloc Jr) c k l a n 0 (h.below (zc _ _)) i 2 s;obtain⟨E,F,p⟩:=zl (h.2.1.2 a[n] (List.getElem_mem i));simp only[zP,p]at o;clear p h s;go_enter func123,ntmps123;go_wp2_with fail;refine o.mono ?_;rintro e d⟨rfl,q,f⟩;have A:=f.size;simp at A;have j:d.heap[w.heap.size]?=S Jr:=by rw[VB f (by simp) (by omega)];exact zk _ _
 have B:=z8 j;have G:=zi j;have z:w.heap.size<d.heap.size:=by omega
 have t:Hid (Rd d c k l a n 0):=q;have u:Hid (Kp c w.heap.size w d):=(Kp.of (zc _ _)).trans (f.mono (by simp));have x:Hid (d.heap[w.heap.size]?=S Jr):=j;clear o q f j;go_wp2_with fail;refine bodyPost_ret (v:=.tuple #[.agg #[.string ⟨#[]⟩,.slice N 0 0],zS 2 a[n].1.place]) (by simp[results,results123,go_sem,zS,B,z]) rfl ?_;refine⟨.err 2 a[n].1.place,?_,?_,_,rfl,n,?_⟩;·rw[<-Z0 i];exact .noName (by rw[Z0 i];exact y)
 ·exact((u.out.setCell (Nat.le_refl _) _).setCell (Nat.le_refl _) _).alloc (by simp;omega) _
 ·refine(t.out.other (b:=w.heap.size) (λg r _=> ?_) x.out (by decide) (by decide) (by decide)).below (zc _ _);rw[Below.heap_setCell _ _ _ _ r,Below.heap_setCell _ _ _ _ r]
end
end Go.Proofs.YtiganlkabilblaaGreatDoor
