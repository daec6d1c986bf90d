package tests

import (
	"fmt"
	"math"
	"math/rand"
	"slices"
	"strings"
	"testing"

	"loop.example/g00226/impl"
)

// clientOf: with the keys of the first n nodes.
func clientOf(t *testing.T, n int, seen, next int64) impl.Client {
	t.Helper()
	return impl.Client{Keys: nodeKeys(t, n), Seen: seen, Next: next}
}

// certFor: by just as many of the first n nodes as it takes.
func certFor(t *testing.T, n int, index int64, root string) impl.Cert {
	t.Helper()
	return certOf(index, root, votesOf(t, index, root, firstNodes(n/2+1)...)...)
}

func sameClient(a, b impl.Client) bool {
	return slices.Equal(a.Keys, b.Keys) && a.Seen == b.Seen && a.Next == b.Next
}

// shownClient: for what a test tells.
func shownClient(c impl.Client) string {
	sizes := []int{}
	for _, key := range c.Keys {
		sizes = append(sizes, len(key))
	}
	return fmt.Sprintf("client with keys of %d bytes, Seen %d, Next %d", sizes, c.Seen, c.Next)
}

func withSeen(c impl.Client, seen int64) impl.Client {
	c.Seen = seen
	return c
}

func withNext(c impl.Client, next int64) impl.Client {
	c.Next = next
	return c
}

// wrongSeen, wrongNext: what a client can't have.
func wrongSeen() []int64 {
	return []int64{-1, -2, -impl.MaxNumber, impl.MaxNumber + 1, impl.MaxNumber + 2, math.MaxInt64, math.MinInt64}
}

func wrongNext() []int64 { return append(wrongSeen(), 0) }

// wrongClients: not right, one way or another.
func wrongClients(t *testing.T) []impl.Client {
	t.Helper()
	list := []impl.Client{{}, {Next: 1}}
	for _, keys := range notKeys(t) {
		list = append(list, impl.Client{Keys: keys, Seen: 4, Next: 3}, impl.Client{Keys: keys, Seen: -1})
	}
	for _, seen := range wrongSeen() {
		list = append(list, clientOf(t, 3, seen, 3), clientOf(t, 1, seen, 0))
	}
	for _, next := range wrongNext() {
		list = append(list, clientOf(t, 3, 4, next), clientOf(t, 1, 4, next))
	}
	return list
}

func TestClientsThatAreRight(t *testing.T) {
	all := nodeKeys(t, 9)
	for n := range 10 {
		if right := impl.ClientOk(impl.Client{Keys: all[:n], Seen: 4, Next: 3}); right != (n == 1 || n == 3 || n == 5 || n == 7) {
			t.Errorf("ClientOk with %d keys: %v", n, right)
		}
	}
	for _, n := range []int{1, 3, 5, 7} {
		for _, seen := range append(rightNumbers(), 0) {
			for _, next := range rightNumbers() {
				keys, room := withSpare(all[:n])
				kept := slices.Clone(room)
				if c := (impl.Client{Keys: keys, Seen: seen, Next: next}); !impl.ClientOk(c) || !slices.Equal(room, kept) {
					t.Errorf("ClientOk of a %s", shownClient(c))
				}
			}
		}
	}
	if !impl.ClientOk(impl.Client{Keys: slices.Repeat(all[:1], 3), Next: 1}) {
		t.Error("ClientOk with one key at all places")
	}
	for _, c := range wrongClients(t) {
		if impl.ClientOk(c) {
			t.Errorf("ClientOk of a %s", shownClient(c))
		}
	}
}

// wantRead: this code, value and whole client, and nothing written.
func wantRead(t *testing.T, why string, c impl.Client, cert impl.Cert, key string, proof []string, want impl.Client, code int64, value string) {
	t.Helper()
	keys, keysRoom := withSpare(c.Keys)
	texts, textsRoom := withSpare(proof)
	keptKeys, keptTexts := slices.Clone(keysRoom), slices.Clone(textsRoom)
	votes, room, rooms := votesRoom(cert.Votes)
	given := impl.Client{Keys: keys, Seen: c.Seen, Next: c.Next}
	behind, said, got := impl.ReadAt(given, impl.Cert{Index: cert.Index, Root: cert.Root, Votes: votes}, key, texts)
	if said != code || got != value || !sameClient(behind, want) {
		t.Errorf("ReadAt, %s: a %s, %s, key %.14q, %d texts: %d, %.20q, a %s; want %d, %.20q, a %s", why, shownClient(c), shownCert(cert), key, len(proof), said, got, shownClient(behind), code, value, shownClient(want))
	}
	for i := range behind.Keys {
		behind.Keys[i] = "written"
	}
	_ = append(behind.Keys, "written")
	wantUnwritten(t, "ReadAt", cert.Votes, room, rooms)
	if !slices.Equal(keysRoom, keptKeys) || !slices.Equal(textsRoom, keptTexts) {
		t.Errorf("ReadAt, %s: shares memory or writes into an argument", why)
	}
}

// wantNotRead: the client as it is beside the code.
func wantNotRead(t *testing.T, why string, c impl.Client, cert impl.Cert, key string, proof []string, code int64) {
	t.Helper()
	wantRead(t, why, c, cert, key, proof, c, code, "")
}

// readCode: of what the pairs have.
func readCode(value string) int64 {
	if value == "" {
		return impl.RdNone
	}
	return impl.RdFound
}

// The digests were worked out apart from the program.
func TestKnownReads(t *testing.T) {
	pairs := pairsOf("", "root", "do", "verb", "dog", "puppy", "doge", "coin", "horse", "stallion")
	list, root := trieNodes(t, pairs), trieRoot(t, pairs)
	cert, ok := impl.Gathered(nodeKeys(t, 3), 5, root, votesOf(t, 5, root, 2, 0))
	all := ""
	for _, v := range cert.Votes {
		all += oneByte(int(v.Node)) + oneByte(int(v.Sig.Index)) + strings.Join(v.Sig.Once, "") + strings.Join(v.Sig.Path, "")
	}
	if !ok || impl.Hex(root) != "24e87a564854ef3fd118611057c27a6cd793fd0a418cf7961f11c807f48e8254" || impl.Hex(librarySum(all)) != "756faeb680ec7bc9e8d30607898aa666f5f6a4990fd4aa44a40e191f8d36033a" {
		t.Errorf("Gathered: %s, %v", shownCert(cert), ok)
	}
	c := clientOf(t, 3, 4, 3)
	for _, pair := range append(pairs, pairsOf("d", "", "dot", "", "dogs", "", "house", "", "\xff", "")...) {
		wantRead(t, "known", c, cert, pair.Key, proofOf(t, list, root, pair.Key), withSeen(c, 5), readCode(pair.Value), pair.Value)
	}
	if impl.RdBad != 0 || impl.RdOld != 1 || impl.RdNone != 2 || impl.RdFound != 3 {
		t.Error("other codes")
	}
}

// What is read is what the pairs have, of every key, by every number of keys.
func TestReadsOfEveryKey(t *testing.T) {
	source := rand.New(rand.NewSource(12))
	for i, pairs := range append(pairSets(), randomPairs(source), randomPairs(source)) {
		n := []int{1, 3, 5, 7}[i%4]
		list, root := trieNodes(t, pairs), trieRoot(t, pairs)
		c, cert := clientOf(t, n, int64(i), int64(i+1)), certFor(t, n, int64(2*i), root)
		keys := keysAsked(pairs)
		for _, key := range keys[:min(len(keys), 40)] {
			proof, value := proofOf(t, list, root, key), valueIn(pairs, key)
			wantRead(t, "every key", c, cert, key, proof, withSeen(c, cert.Index), readCode(value), value)
			if code, shown := impl.CheckProof(root, key, proof); (code == impl.PfHas) != (value != "") || shown != value {
				t.Errorf("CheckProof of %q: %d, %q", key, code, shown)
			}
		}
	}
}

func TestReadsOfEmptyRoot(t *testing.T) {
	c := clientOf(t, 3, 4, 3)
	cert := certFor(t, 3, 5, impl.EmptyRoot())
	for _, key := range []string{"", "a", letters(12)} {
		wantRead(t, "no texts", c, cert, key, nil, withSeen(c, 5), impl.RdNone, "")
		wantRead(t, "no texts", c, cert, key, []string{}, withSeen(c, 5), impl.RdNone, "")
		for _, text := range []string{"", "\x80", leafItem(t, "", "1")} {
			wantNotRead(t, "a text", c, cert, key, []string{text}, impl.RdBad)
		}
	}
	wantNotRead(t, "a key of 13 bytes", c, cert, letters(13), nil, impl.RdBad)
}

func TestReadsByHowManyVotes(t *testing.T) {
	pairs := pairsOf("do", "verb", "dog", "puppy")
	list, root := trieNodes(t, pairs), trieRoot(t, pairs)
	proof := proofOf(t, list, root, "dog")
	for _, n := range []int{1, 3, 5, 7} {
		c, votes := clientOf(t, n, 4, 3), votesOf(t, 5, root, firstNodes(n)...)
		for count := range n + 1 {
			some := votes[n-count:]
			if count > n/2 {
				wantRead(t, "enough votes", c, certOf(5, root, some...), "dog", proof, withSeen(c, 5), impl.RdFound, "puppy")
			} else {
				wantNotRead(t, "too few votes", c, certOf(5, root, some...), "dog", proof, impl.RdBad)
			}
		}
		wantNotRead(t, "more votes than keys", c, certOf(5, root, append(slices.Clone(votes), votes[n-1])...), "dog", proof, impl.RdBad)
	}
}

// A certificate that does not hold, one way or another, for the root.
func badCerts(t *testing.T, index int64, root string) []impl.Cert {
	t.Helper()
	votes := votesOf(t, index, root, 0, 1, 2)
	return []impl.Cert{
		{}, certOf(index, root), certOf(index, root, votes[0]), certOf(index, root, votes[1], votes[0]), certOf(index, root, votes[0], votes[0]),
		certOf(index+1, root, votes...), certOf(index-1, root, votes...), certOf(-1, root, votes...), certOf(impl.MaxNumber+1, root, votes...),
		certOf(index, hash(1), votes...), certOf(index, root[:31], votes...), certOf(index, "", votes...), certOf(index, impl.EmptyRoot(), votes...),
		certOf(index, root, votes[0], withPath(votes[1], votes[1].Sig.Path[:1])), certOf(index, root, votes[0], impl.Vote{Node: 1}),
		certOf(index, root, votes[0], onNode(votes[1], 2)), certOf(index, root, votes[0], onNode(votes[1], 3)), certOf(index, root, onNode(votes[0], -1), votes[1]),
		certOf(index, root, append(votes, votes[2])...), certOf(index, root, votesOf(t, index, root, 3, 4, 5)...),
	}
}

func TestReadsThatAreRefused(t *testing.T) {
	pairs := pairsOf("", "root", "do", "verb", "dog", "puppy", "horse", "stallion")
	list, root := trieNodes(t, pairs), trieRoot(t, pairs)
	c, cert := clientOf(t, 3, 4, 3), certFor(t, 3, 5, root)
	proof := proofOf(t, list, root, "dog")
	for _, wrong := range badCerts(t, 5, root) {
		wantNotRead(t, "a certificate", c, wrong, "dog", proof, impl.RdBad)
		wantNotRead(t, "a certificate and a proof", c, wrong, "dog", nil, impl.RdBad)
	}
	for place := range c.Keys {
		other := c
		other.Keys = changedAt(c.Keys, place, hash(1))
		if place < 2 {
			wantNotRead(t, "another key", other, cert, "dog", proof, impl.RdBad)
		} else {
			wantRead(t, "another key of one that has not signed", other, cert, "dog", proof, withSeen(other, 5), impl.RdFound, "puppy")
		}
	}
	for i, text := range proof {
		wantNotRead(t, "a text left out", c, cert, "dog", slices.Delete(slices.Clone(proof), i, i+1), impl.RdBad)
		wantNotRead(t, "a bit turned", c, cert, "dog", changedAt(proof, i, turned(text, len(text)-1)), impl.RdBad)
		wantNotRead(t, "a text behind", c, cert, "dog", append(slices.Clone(proof), text), impl.RdBad)
		wantNotRead(t, "cut off", c, cert, "dog", proof[:i], impl.RdBad)
	}
	wantNotRead(t, "a text behind", c, cert, "dog", append(slices.Clone(proof), ""), impl.RdBad)
	wantNotRead(t, "31 texts", c, cert, "dog", slices.Repeat(proof[:1], 31), impl.RdBad)
	wantNotRead(t, "the proof of another key", c, cert, "horse", proof, impl.RdBad)
	wantNotRead(t, "a key of 13 bytes", c, cert, letters(13), proofOf(t, list, root, letters(12)), impl.RdBad)
	wantRead(t, "a key of 12 bytes", c, cert, letters(12), proofOf(t, list, root, letters(12)), withSeen(c, 5), impl.RdNone, "")
	other := withPair(t, pairs, "dog", "hound")
	wantNotRead(t, "the proof of another root", c, cert, "dog", proofOf(t, trieNodes(t, other), trieRoot(t, other), "dog"), impl.RdBad)
	wantNotRead(t, "the proof of EmptyRoot", c, cert, "dog", nil, impl.RdBad)
	wantNotRead(t, "the proof of a node below", c, cert, "dog", proof[1:], impl.RdBad)
}

func TestReadsOfAnOldIndex(t *testing.T) {
	pairs := pairsOf("do", "verb", "dog", "puppy")
	list, root := trieNodes(t, pairs), trieRoot(t, pairs)
	has, lacks := proofOf(t, list, root, "dog"), proofOf(t, list, root, "dot")
	for _, index := range []int64{0, 1, 5, 256, impl.MaxNumber - 1, impl.MaxNumber} {
		cert := certFor(t, 3, index, root)
		for _, seen := range []int64{0, index - 1, index, index + 1, index + 2, index / 2, impl.MaxNumber} {
			c := clientOf(t, 3, seen, 3)
			if seen < 0 || seen > impl.MaxNumber {
				wantRead(t, "no such Seen", c, cert, "dog", has, impl.Client{}, impl.RdBad, "")
				continue
			}
			if seen > index {
				wantNotRead(t, "an old Index", c, cert, "dog", has, impl.RdOld)
				wantNotRead(t, "an old Index", c, cert, "dot", lacks, impl.RdOld)
				continue
			}
			wantRead(t, "an Index", c, cert, "dog", has, withSeen(c, index), impl.RdFound, "puppy")
			wantRead(t, "an Index", c, cert, "dot", lacks, withSeen(c, index), impl.RdNone, "")
			wantNotRead(t, "an Index and a bad proof", c, cert, "dog", nil, impl.RdBad)
		}
	}
}

// Where two refusals could be told, the first one is.
func TestWhichRefusalComesFirst(t *testing.T) {
	pairs := pairsOf("do", "verb", "dog", "puppy")
	list, root := trieNodes(t, pairs), trieRoot(t, pairs)
	proof := proofOf(t, list, root, "dog")
	cert := certFor(t, 3, 5, root)
	old := clientOf(t, 3, 6, 3)
	for _, bad := range [][]string{nil, proof[:1], proof[1:], append(slices.Clone(proof), "x"), slices.Repeat(proof, 31)} {
		wantNotRead(t, "an old Index and a bad proof", old, cert, "dog", bad, impl.RdOld)
		for _, wrong := range badCerts(t, 5, root) {
			wantNotRead(t, "a certificate, an old Index and a bad proof", old, wrong, "dog", bad, impl.RdBad)
		}
	}
	wantNotRead(t, "an old Index and a long key", old, cert, letters(13), proof, impl.RdOld)
	for _, wrong := range badCerts(t, 5, root) {
		wantNotRead(t, "a certificate and an old Index", old, wrong, "dog", proof, impl.RdBad)
	}
	for _, c := range wrongClients(t) {
		wantRead(t, "a client", c, cert, "dog", proof, impl.Client{}, impl.RdBad, "")
		wantRead(t, "a client and a proof", c, cert, "dog", nil, impl.Client{}, impl.RdBad, "")
		wantRead(t, "a client and an old Index", c, certFor(t, 3, 0, root), "dog", proof, impl.Client{}, impl.RdBad, "")
		wantRead(t, "a client and all else", c, impl.Cert{}, letters(13), slices.Repeat(proof, 31), impl.Client{}, impl.RdBad, "")
	}
}

// certified: pairs with their certificate at an index.
type certified struct {
	pairs []impl.Pair
	list  []impl.Stored
	cert  impl.Cert
}

func TestWhatWasSeenNeverFalls(t *testing.T) {
	source := rand.New(rand.NewSource(13))
	var states []certified
	pairs := pairsOf("dog", "puppy")
	for index := range int64(12) {
		root := trieRoot(t, pairs)
		states = append(states, certified{pairs, trieNodes(t, pairs), certFor(t, 3, index, root)})
		pairs = plainOps(pairs, randomOps(source, 3))
	}
	for range 6 {
		c, most := clientOf(t, 3, 0, 9), int64(0)
		told := []int64{0, 0, 0, 0}
		for range 30 {
			at := int(most) + source.Intn(5) - 2
			s := states[min(max(at, 0), len(states)-1)]
			key := keysAsked(s.pairs)[source.Intn(len(keysAsked(s.pairs)))]
			proof := proofOf(t, s.list, s.cert.Root, key)
			want, code, value := c, int64(impl.RdOld), ""
			switch bad := source.Intn(4) == 0; {
			case s.cert.Index < c.Seen:
			case bad:
				proof, code = append(proof, "x"), impl.RdBad
			default:
				value = valueIn(s.pairs, key)
				want, code = withSeen(c, s.cert.Index), readCode(value)
			}
			wantRead(t, "one behind the other", c, s.cert, key, proof, want, code, value)
			next, _, _ := impl.ReadAt(c, s.cert, key, proof)
			if next.Seen < c.Seen || next.Seen < most {
				t.Fatalf("Seen falls from %d to %d", c.Seen, next.Seen)
			}
			c, most = next, max(most, next.Seen)
			told[code]++
		}
		if c.Next != 9 || slices.Contains(told, 0) {
			t.Errorf("a %s; codes %d", shownClient(c), told)
		}
	}
}

// wantNext: this batch and this whole client, and nothing written.
func wantNext(t *testing.T, why string, c impl.Client, id int64, ops []impl.Op, want impl.Client, wantBatch impl.Batch, wantOk bool) {
	t.Helper()
	keys, keysRoom := withSpare(c.Keys)
	given, opsRoom := opsWithRoom(ops)
	keptKeys, keptOps := slices.Clone(keysRoom), slices.Clone(opsRoom)
	behind, b, ok := impl.NextBatch(impl.Client{Keys: keys, Seen: c.Seen, Next: c.Next}, id, given)
	if ok != wantOk || !sameBatch(b, wantBatch) || !sameClient(behind, want) {
		t.Errorf("NextBatch, %s: a %s, id %d, %s: a %s, %s, %v; want a %s, %s, %v", why, shownClient(c), id, shownOps(ops), shownClient(behind), shownBatch(b), ok, shownClient(want), shownBatch(wantBatch), wantOk)
	}
	if ok && (!impl.BatchOk(b) || !impl.ClientOk(behind)) {
		t.Errorf("NextBatch, %s: %s or a %s is not right", why, shownBatch(b), shownClient(behind))
	}
	for i := range behind.Keys {
		behind.Keys[i] = "written"
	}
	for i := range b.Ops {
		b.Ops[i] = impl.Op{Key: "written"}
	}
	_, _ = append(behind.Keys, "written"), append(b.Ops, impl.Op{Key: "written"})
	if !slices.Equal(keysRoom, keptKeys) || !slices.Equal(opsRoom, keptOps) {
		t.Errorf("NextBatch, %s: shares memory or writes into an argument", why)
	}
}

// wantNoNext: the client as it is, and no batch.
func wantNoNext(t *testing.T, why string, c impl.Client, id int64, ops []impl.Op) {
	t.Helper()
	wantNext(t, why, c, id, ops, c, impl.Batch{}, false)
}

func TestNextBatches(t *testing.T) {
	for _, n := range []int{1, 3, 7} {
		for _, next := range rightNumbers() {
			c := clientOf(t, n, 4, next)
			for _, id := range []int64{1, 2, 9, impl.MaxNumber - 1, impl.MaxNumber} {
				if next == impl.MaxNumber {
					wantNoNext(t, "Next is MaxNumber", c, id, someOps(2))
					continue
				}
				wantNext(t, "a batch", c, id, someOps(2), withNext(c, next+1), withNumbers(id, next, someOps(2)), true)
			}
		}
	}
	for _, seen := range []int64{0, impl.MaxNumber} {
		for _, b := range rightBatches() {
			c := clientOf(t, 1, seen, b.Number)
			if b.Number < impl.MaxNumber {
				wantNext(t, "a right batch", c, b.Client, b.Ops, withNext(c, b.Number+1), b, true)
			} else {
				wantNoNext(t, "Next is MaxNumber", c, b.Client, b.Ops)
			}
		}
	}
}

func TestNoNextBatches(t *testing.T) {
	for _, next := range []int64{1, 3, impl.MaxNumber - 1, impl.MaxNumber} {
		c := clientOf(t, 3, 4, next)
		for _, id := range wrongNumbers() {
			wantNoNext(t, "an id", c, id, someOps(1))
			wantNoNext(t, "an id and ops", c, id, nil)
		}
		for _, n := range []int{0, 13, 14, 1000} {
			wantNoNext(t, "a number of ops", c, 9, slices.Repeat(opsOf("a", "1"), n))
		}
		for _, op := range wrongOps() {
			wantNoNext(t, "an op", c, 9, []impl.Op{op})
			wantNoNext(t, "an op behind", c, 9, append(someOps(11), op))
			wantNoNext(t, "an op ahead", c, 9, append([]impl.Op{op}, someOps(3)...))
		}
		wantNoNext(t, "no ops", c, 9, []impl.Op{})
	}
	for _, n := range []int{1, 11, 12} {
		c := clientOf(t, 3, 4, 3)
		wantNext(t, "a number of ops", c, 9, someOps(n), withNext(c, 4), withNumbers(9, 3, someOps(n)), true)
	}
	for _, c := range wrongClients(t) {
		wantNext(t, "a client", c, 9, someOps(1), impl.Client{}, impl.Batch{}, false)
		wantNext(t, "a client and an id", c, 0, someOps(1), impl.Client{}, impl.Batch{}, false)
		wantNext(t, "a client and ops", c, 9, nil, impl.Client{}, impl.Batch{}, false)
	}
}

// Batches one behind the other follow one another, and a replica takes each in turn.
func TestBatchesFollowOneAnother(t *testing.T) {
	source := rand.New(rand.NewSource(14))
	r := impl.ReplicaNew()
	clients := []impl.Client{clientOf(t, 1, 0, 1), clientOf(t, 3, 7, 1), clientOf(t, 5, 0, 100)}
	next := []int64{1, 1, 100}
	var pairs []impl.Pair
	for index := int64(1); index <= 30; index++ {
		who := source.Intn(3)
		ops := randomOps(source, 1+source.Intn(4))
		c, b, ok := impl.NextBatch(clients[who], int64(who+5), ops)
		if !ok || b.Client != int64(who+5) || b.Number != next[who] || c.Next != next[who]+1 || !slices.Equal(b.Ops, ops) {
			t.Fatalf("NextBatch of a %s, %d: a %s, %s, %v", shownClient(clients[who]), who+5, shownClient(c), shownBatch(b), ok)
		}
		if source.Intn(3) == 0 {
			wantNoNext(t, "refused in between", c, 0, ops)
			c, _, _ = impl.NextBatch(c, 0, ops)
		}
		var code int64
		if r, code = impl.Applied(r, index, b); code != impl.ApDone {
			t.Fatalf("Applied of %s at %d: %d", shownBatch(b), index, code)
		}
		clients[who], pairs = c, plainOps(pairs, ops)
		next[who]++
	}
	if told, ok := impl.ReplicaPairs(r); !ok || !slices.Equal(told, pairs) {
		t.Errorf("a %s with %.60q; want %.60q", shownReplica(r), told, pairs)
	}
	c := clientOf(t, 1, 0, impl.MaxNumber-2)
	for _, number := range []int64{impl.MaxNumber - 2, impl.MaxNumber - 1} {
		then, b, ok := impl.NextBatch(c, 1, opsOf("a", "1"))
		if !ok || b.Number != number || then.Next != number+1 {
			t.Errorf("NextBatch of a %s: %s, %v", shownClient(c), shownBatch(b), ok)
		}
		c = then
	}
	wantNoNext(t, "the last one was made", c, 1, opsOf("a", "1"))
}

// A whole round: a client's batches, replicas that sign, a read of what they have.
func TestReadsOfWhatReplicasSigned(t *testing.T) {
	c := clientOf(t, 3, 0, 1)
	r := impl.ReplicaNew()
	signers := []impl.Signer{{Seed: nodeSeed(0)}, {Seed: nodeSeed(1)}, {Seed: nodeSeed(2)}}
	for i, ops := range [][]impl.Op{opsOf("dog", "puppy"), opsOf("do", "verb", "dog", "hound"), opsOf("do", "", "dog", ""), opsOf("cat", "kitten")} {
		var b impl.Batch
		var ok bool
		c, b, ok = impl.NextBatch(c, 8, ops)
		r, _ = impl.Applied(r, int64(i+1), b)
		var votes []impl.Vote
		for node, s := range signers {
			next, v, voted := impl.VoteFor(s, int64(node), r.Index, r.Root)
			signers[node], votes, ok = next, append([]impl.Vote{v}, votes...), ok && voted
		}
		cert, gathered := impl.Gathered(c.Keys, r.Index, r.Root, votes)
		if !ok || !gathered {
			t.Fatalf("round %d: %s", i, shownCert(cert))
		}
		pairs, _ := impl.ReplicaPairs(r)
		for _, key := range []string{"dog", "do", "cat", ""} {
			value := valueIn(pairs, key)
			wantRead(t, "a round", c, cert, key, proofOf(t, r.Store, r.Root, key), withSeen(c, r.Index), readCode(value), value)
		}
		c, _, _ = impl.ReadAt(c, cert, "dog", proofOf(t, r.Store, r.Root, "dog"))
		if c.Seen != int64(i+1) || c.Next != int64(i+2) {
			t.Errorf("round %d: a %s", i, shownClient(c))
		}
	}
}

func TestClientsShareNoMemory(t *testing.T) {
	pairs := pairsOf("dog", "puppy")
	list, root := trieNodes(t, pairs), trieRoot(t, pairs)
	cert, proof := certFor(t, 3, 5, root), proofOf(t, list, root, "dog")
	c := clientOf(t, 3, 4, 3)
	ops := someOps(3)
	var answers []impl.Client
	for range 2 {
		found, _, _ := impl.ReadAt(c, cert, "dog", proof)
		bad, _, _ := impl.ReadAt(c, cert, "dog", nil)
		wrong, _, _ := impl.ReadAt(c, impl.Cert{}, "dog", nil)
		old, _, _ := impl.ReadAt(withSeen(c, 6), cert, "dog", proof)
		next, first, _ := impl.NextBatch(c, 9, ops)
		none, _, _ := impl.NextBatch(c, 9, nil)
		last, _, _ := impl.NextBatch(withNext(c, impl.MaxNumber), 9, ops)
		answers = append(answers, found, bad, wrong, old, next, none, last)
		_, second, _ := impl.NextBatch(c, 9, ops)
		first.Ops[0] = impl.Op{Key: "written"}
		if !slices.Equal(second.Ops, someOps(3)) || !slices.Equal(ops, someOps(3)) {
			t.Error("Ops of two answers, or of an answer and an argument, share memory")
		}
	}
	for i, one := range answers {
		clear(one.Keys)
		for _, other := range append(slices.Clone(answers[i+1:]), c) {
			if !slices.Equal(other.Keys, nodeKeys(t, 3)) {
				t.Fatalf("Keys of answer %d share memory", i)
			}
		}
	}
}
