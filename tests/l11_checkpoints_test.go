package tests

import (
	"fmt"
	"math"
	"math/rand"
	"runtime"
	"slices"
	"strconv"
	"strings"
	"testing"
	"time"

	"loop.example/g00226/impl"
)

// checkRoot: what most votes here are for.
func checkRoot() string { return librarySum("root") }

func nodeSeed(node int64) string {
	return librarySum("node " + strconv.FormatInt(node, 10))
}

// nodeKeys: the roots of the first n nodes' signers.
func nodeKeys(t *testing.T, n int) []string {
	t.Helper()
	var keys []string
	for node := range int64(n) {
		keys = append(keys, rootOf(t, nodeSeed(node)))
	}
	return keys
}

// voteOf: what the node signs with the leaf used.
func voteOf(t *testing.T, node, used, index int64, root string) impl.Vote {
	t.Helper()
	_, v, ok := impl.VoteFor(impl.Signer{Seed: nodeSeed(node), Used: used}, node, index, root)
	if !ok {
		t.Fatalf("VoteFor of node %d, leaf %d refuses index %d, root %x", node, used, index, root)
	}
	return v
}

// votesOf: one of each of these nodes, in this order, each with its first leaf.
func votesOf(t *testing.T, index int64, root string, nodes ...int64) []impl.Vote {
	t.Helper()
	var votes []impl.Vote
	for _, node := range nodes {
		votes = append(votes, voteOf(t, node, 0, index, root))
	}
	return votes
}

// firstNodes: 0, 1, .. up to n of them.
func firstNodes(n int) []int64 {
	var nodes []int64
	for node := range int64(n) {
		nodes = append(nodes, node)
	}
	return nodes
}

// picked: those of the list that stand at these places.
func picked[T any](list []T, places ...int64) []T {
	var some []T
	for _, place := range places {
		some = append(some, list[place])
	}
	return some
}

func sameSignature(a, b impl.Signature) bool {
	return a.Index == b.Index && slices.Equal(a.Once, b.Once) && slices.Equal(a.Path, b.Path)
}

func sameVote(a, b impl.Vote) bool {
	return a.Node == b.Node && sameSignature(a.Sig, b.Sig)
}

func sameCert(a, b impl.Cert) bool {
	return a.Index == b.Index && a.Root == b.Root && slices.EqualFunc(a.Votes, b.Votes, sameVote)
}

// shownVotes: for what a test tells.
func shownVotes(votes []impl.Vote) string {
	all := []string{}
	for _, v := range votes[:min(len(votes), 20)] {
		all = append(all, fmt.Sprintf("%d:%d:%s", v.Node, v.Sig.Index, impl.Hex(librarySum(strings.Join(append(slices.Clone(v.Sig.Once), v.Sig.Path...), "")))[:6]))
	}
	return fmt.Sprintf("%d votes %s", len(votes), all)
}

func shownCert(c impl.Cert) string {
	return fmt.Sprintf("index %d, root %.4x, %s", c.Index, c.Root, shownVotes(c.Votes))
}

// voteRoom: a vote with spare room behind its lists, and all of that room.
func voteRoom(v impl.Vote) (copied, room impl.Vote) {
	copied, room = v, v
	copied.Sig.Once, room.Sig.Once = withSpare(v.Sig.Once)
	copied.Sig.Path, room.Sig.Path = withSpare(v.Sig.Path)
	return copied, room
}

// votesRoom: the same for a list of votes, with room behind the list too.
func votesRoom(votes []impl.Vote) (copied, room, rooms []impl.Vote) {
	for _, v := range votes {
		one, behind := voteRoom(v)
		room, rooms = append(room, one), append(rooms, behind)
	}
	room = append(room, impl.Vote{Node: -7}, impl.Vote{Node: -7})
	return room[:len(votes)], room, rooms
}

// wantUnwritten: what was handed in, and the room behind it, is as it was.
func wantUnwritten(t *testing.T, what string, votes, room, rooms []impl.Vote) {
	t.Helper()
	_, wantRoom, wantRooms := votesRoom(votes)
	if !slices.EqualFunc(room, wantRoom, sameVote) || !slices.EqualFunc(rooms, wantRooms, sameVote) {
		t.Errorf("%s shares memory or writes into an argument", what)
	}
}

func overwriteVote(v *impl.Vote) {
	for _, list := range [][]string{v.Sig.Once, v.Sig.Path} {
		for i := range list {
			list[i] = "written"
		}
		_ = append(list, "written")
	}
	v.Node, v.Sig.Index = -8, -8
}

func overwriteCert(c impl.Cert) {
	for i := range c.Votes {
		overwriteVote(&c.Votes[i])
	}
	_ = append(c.Votes, impl.Vote{Node: -8})
}

// turned: the text with one bit of that byte turned.
func turned(text string, place int) string {
	return text[:place] + oneByte(int(text[place]^(1<<(place%8)))) + text[place+1:]
}

// withOnce, withPath: the vote with another list.
func withOnce(v impl.Vote, once []string) impl.Vote {
	v.Sig.Once = once
	return v
}

func withPath(v impl.Vote, path []string) impl.Vote {
	v.Sig.Path = path
	return v
}

func onNode(v impl.Vote, node int64) impl.Vote {
	v.Node = node
	return v
}

// wrongIndexes, wrongRoots: nothing can be signed for them.
func wrongIndexes() []int64 {
	return []int64{-1, -2, -256, impl.MaxNumber + 1, impl.MaxNumber + 2, 1 << 40, math.MaxInt64, math.MinInt64}
}

func wrongRoots() []string {
	return append(wrongSizes(), checkRoot()[:31], checkRoot()+"\x00", checkRoot()[1:], impl.Hex(checkRoot()))
}

func rightIndexes() []int64 {
	return append(rightNumbers(), 0, 7, 258)
}

// notKeys: no right keys, though the first n of them are those of the nodes as far as they go.
func notKeys(t *testing.T) [][]string {
	t.Helper()
	all := nodeKeys(t, 9)
	lists := [][]string{nil, {}, all[:2], all[:4], all[:6], all[:8], all, slices.Repeat(all[:1], 11), slices.Repeat(all[:1], 257)}
	for _, n := range []int{1, 3, 5, 7} {
		for place := range n {
			for _, wrong := range []string{"", all[place][:31], all[place] + "\x00", all[place][1:], impl.Hex(all[place])} {
				lists = append(lists, changedAt(all[:n], place, wrong))
			}
		}
	}
	return lists
}

// The digests were worked out apart from the program.
func TestKnownCheckTexts(t *testing.T) {
	for _, c := range []struct {
		index int64
		root  string
		want  string
	}{
		{0, checkRoot(), "05d25491824a9c8eefd396ff4b40d561a8c5b11c3e2194ce932e7fba189b4aba"},
		{1, checkRoot(), "ac3be8f65eeb8669d014ca70d2cd730148909314db9f508e9b04d1b910c38d43"},
		{127, checkRoot(), "194db0f519dbf2c410cc9811b795946bad9407258891ffdfb928e783b2678029"},
		{128, checkRoot(), "30944b10c6609f6c975cbfd272660745778a28763e3ce64fcd81d5aa33e8ba58"},
		{255, checkRoot(), "b2e7255ffca2e6cbf77a17dd1d093cc59d56adf6bde5454669c5bbbd02d8d384"},
		{256, checkRoot(), "63c9409b57ce2d1660ca9049269f9a5d9ac0cc2c95912ad699ef35d6c136f0d8"},
		{65536, checkRoot(), "80c3b5d20d6a320fb7892e57e9e0b08804b993991dd9222218443657a292438f"},
		{impl.MaxNumber, checkRoot(), "98b3ddd2b9ae94bab7e592e6e2ae7a4331d579dd839613d4ac72f477f5db70da"},
		{0, strings.Repeat("\x00", 32), "62411d4710745dbcd726597ff037bdaa9b5c1d42a24fe4308ec8055f4ccb9981"},
	} {
		if text, ok := impl.CheckText(c.index, c.root); !ok || impl.Hex(text) != c.want {
			t.Errorf("CheckText of %d, %x: %x, %v", c.index, c.root, text, ok)
		}
	}
}

func TestCheckTexts(t *testing.T) {
	roots := append(seeds(), checkRoot(), impl.EmptyRoot(), letters(32))
	for _, index := range rightIndexes() {
		for _, root := range roots {
			want := libraryTagged(t, "checkpoint", plainNumber(index), root)
			if text, ok := impl.CheckText(index, root); !ok || text != want || text != impl.Tagged("checkpoint", []string{plainNumber(index), root}) {
				t.Errorf("CheckText of %d, %x: %x, %v; want %x", index, root, text, ok, want)
			}
		}
		for _, root := range wrongRoots() {
			if text, ok := impl.CheckText(index, root); ok || text != "" {
				t.Errorf("CheckText of %d, %d bytes: %x, %v", index, len(root), text, ok)
			}
		}
	}
	for _, index := range wrongIndexes() {
		for _, root := range append(roots, "", letters(31)) {
			if text, ok := impl.CheckText(index, root); ok || text != "" {
				t.Errorf("CheckText of %d, %d bytes: %x, %v", index, len(root), text, ok)
			}
		}
	}
}

// The digests were worked out apart from the program.
func TestKnownVotes(t *testing.T) {
	keys := nodeKeys(t, 7)
	if impl.Hex(keys[0]) != "9bdae22f17de4560f8ec93957a93c8d1e477415fc188156a84a6f4c65d5fdca3" || impl.Hex(keys[6]) != "c461e8710523c8b12885e2c00e68089ed260dfd0f6a3fd28d8acc904c2ddd271" {
		t.Errorf("keys %x", keys)
	}
	for _, c := range []struct {
		used, node, index int64
		want              string
	}{
		{0, 0, 0, "990a4ebc979fa84d2e9b4eb0ec758b18da975a24e43882fdd7b16677e1e72592"},
		{0, 3, 0, "e2165da76009c05ae1ffdcb8104ac9da6acbd4f5e3c736e19ad0d09acb121e0a"},
		{0, 6, 0, "5ff3db5d930001ac5bd5f8d5c72b7343349275950a778177bb5f0090d6bc242d"},
		{1, 0, 7, "ebbbf0220f7005f441a332e2eae98d7cc3ea62ce1c36e5f979d593092e8e5433"},
		{1, 3, 7, "4f4733f53ccaf7487c310e4c1da6373f4d75e52d6f0536543a2ead0599f47830"},
		{2, 3, 256, "3e181d76c1a9a9e70a947fdf1d8f2303f6c25a52dc39a5b4459f0c1e3a60f324"},
		{2, 6, 256, "5f1aaeb48641d918551b6fcca3c97bb6aca12146a8e96a305ba295ea00355c69"},
		{3, 0, impl.MaxNumber, "4c141a5d07b321d6a98ef52d67dd80a145db77a4052e5c0b42bb8c600545ed5b"},
		{3, 6, impl.MaxNumber, "1b2531ab93fcff5f98bf0cfbbc97f89fc3aa7fa7b1860f5e7ca39f60b3362f2d"},
	} {
		v := voteOf(t, c.node, c.used, c.index, checkRoot())
		all := oneByte(int(v.Node)) + oneByte(int(v.Sig.Index)) + strings.Join(v.Sig.Once, "") + strings.Join(v.Sig.Path, "")
		if impl.Hex(librarySum(all)) != c.want || len(v.Sig.Once) != 19 || len(v.Sig.Path) != 2 {
			t.Errorf("VoteFor of node %d, leaf %d, index %d: %s", c.node, c.used, c.index, shownVotes([]impl.Vote{v}))
		}
	}
}

func TestVotesAreSigned(t *testing.T) {
	keys := nodeKeys(t, 7)
	for node := range int64(impl.MaxSigners) {
		s := impl.Signer{Seed: nodeSeed(node)}
		for i, index := range []int64{5, 0, 256, impl.MaxNumber} {
			root := librarySum(strconv.Itoa(i))
			next, v, ok := impl.VoteFor(s, node, index, root)
			if !ok || next != (impl.Signer{Seed: s.Seed, Used: s.Used + 1}) {
				t.Fatalf("VoteFor of node %d, leaf %d: %v, then %x, %d", node, s.Used, ok, next.Seed, next.Used)
			}
			_, sig := signed(t, s, libraryTagged(t, "checkpoint", plainNumber(index), root))
			if v.Node != node || !sameSignature(v.Sig, sig) {
				t.Errorf("VoteFor of node %d, leaf %d: %s", node, s.Used, shownVotes([]impl.Vote{v}))
			}
			if !impl.VoteOk(keys, index, root, v) {
				t.Errorf("the vote of node %d, leaf %d does not hold", node, s.Used)
			}
			s = next
		}
		wantNoVote(t, "all leaves are used", s, node, 5, checkRoot())
	}
	if impl.MaxSigners != 7 {
		t.Error("another limit")
	}
}

// wantNoVote: the signer as it is, and no vote.
func wantNoVote(t *testing.T, why string, s impl.Signer, node, index int64, root string) {
	t.Helper()
	next, v, ok := impl.VoteFor(s, node, index, root)
	if ok || next != s || !sameVote(v, impl.Vote{}) {
		t.Errorf("VoteFor, %s: signer of %d bytes, %d, node %d, index %d, root of %d bytes: signer of %d bytes, %d, %s, %v", why, len(s.Seed), s.Used, node, index, len(root), len(next.Seed), next.Used, shownVotes([]impl.Vote{v}), ok)
	}
}

func TestNoVotes(t *testing.T) {
	nodes := []int64{-1, 7, 8, -7, 256, -256, math.MaxInt64, math.MinInt64}
	for used := range int64(impl.KeyCount) {
		s := impl.Signer{Seed: nodeSeed(2), Used: used}
		for _, node := range nodes {
			wantNoVote(t, "a node", s, node, 5, checkRoot())
		}
		for _, index := range wrongIndexes() {
			wantNoVote(t, "an index", s, 2, index, checkRoot())
		}
		for _, root := range wrongRoots() {
			wantNoVote(t, "a root", s, 2, 5, root)
		}
	}
	for _, s := range append(wrongSigners(), impl.Signer{Seed: nodeSeed(2), Used: impl.KeyCount}) {
		wantNoVote(t, "a signer", s, 2, 5, checkRoot())
		wantNoVote(t, "a signer and a node", s, 7, 5, checkRoot())
		wantNoVote(t, "a signer and an index", s, 2, -1, checkRoot())
		wantNoVote(t, "a signer and a root", s, 2, 5, "")
		wantNoVote(t, "all of it", s, -1, -1, "")
	}
}

func TestVotingLeavesItsAnswers(t *testing.T) {
	first := voteOf(t, 2, 1, 5, checkRoot())
	_, kept := voteRoom(first)
	second := voteOf(t, 2, 1, 5, checkRoot())
	clear(first.Sig.Once)
	if !slices.Equal(first.Sig.Path, kept.Sig.Path[:impl.KeyDeep]) {
		t.Error("Once and Path share memory")
	}
	clear(first.Sig.Path)
	if _, want := voteRoom(second); !sameVote(kept, want) {
		t.Error("two answers are unlike, or share memory")
	}
}

func wantVote(t *testing.T, why string, keys []string, index int64, root string, v impl.Vote, want bool) {
	t.Helper()
	given, givenRoom := withSpare(keys)
	kept := slices.Clone(givenRoom)
	vote, room := voteRoom(v)
	_, keptVote := voteRoom(v)
	if impl.VoteOk(given, index, root, vote) != want {
		t.Errorf("VoteOk, %s: %d keys, index %d, root %.4x, %s: want %v", why, len(keys), index, root, shownVotes([]impl.Vote{v}), want)
	}
	if !slices.Equal(givenRoom, kept) || !sameVote(room, keptVote) {
		t.Errorf("VoteOk, %s: writes into an argument", why)
	}
}

func TestVotesHoldForWhatWasSigned(t *testing.T) {
	keys := nodeKeys(t, 7)
	for _, index := range []int64{0, 1, 255, 256, impl.MaxNumber} {
		for node := range int64(7) {
			v := voteOf(t, node, index%4, index, checkRoot())
			wantVote(t, "what was signed", keys, index, checkRoot(), v, true)
			for _, other := range append(rightIndexes(), index+1, index-1, index<<8, -index-1) {
				if other != index {
					wantVote(t, "another index", keys, other, checkRoot(), v, false)
				}
			}
			for _, other := range append(wrongRoots(), hash(1), impl.EmptyRoot(), turned(checkRoot(), 0), turned(checkRoot(), 31)) {
				wantVote(t, "another root", keys, index, other, v, false)
			}
			for _, other := range []int64{0, 1, 2, 3, 4, 5, 6, 7, -1, node + 256, node - 256, node + 7, math.MaxInt64, math.MinInt64} {
				wantVote(t, "a Node", keys, index, checkRoot(), onNode(v, other), other == node)
			}
			for place := range keys {
				wantVote(t, "another key", changedAt(keys, place, hash(1)), index, checkRoot(), v, int64(place) != node)
				wantVote(t, "a key with a turned bit", changedAt(keys, place, turned(keys[place], 31)), index, checkRoot(), v, int64(place) != node)
			}
		}
		for _, wrong := range wrongIndexes() {
			wantVote(t, "an index that is refused", keys, wrong, checkRoot(), voteOf(t, 1, 0, index, checkRoot()), false)
		}
	}
}

func TestSignaturesThatDoNotHold(t *testing.T) {
	keys := nodeKeys(t, 3)
	v := voteOf(t, 1, 2, 5, checkRoot())
	wantVote(t, "as it is", keys, 5, checkRoot(), v, true)
	for i, text := range v.Sig.Once {
		for place := range len(text) {
			wantVote(t, "a bit of Once turned", keys, 5, checkRoot(), withOnce(v, changedAt(v.Sig.Once, i, turned(text, place))), false)
		}
		for _, wrong := range []string{"", text[:31], text + "\x00"} {
			wantVote(t, "a text in Once", keys, 5, checkRoot(), withOnce(v, changedAt(v.Sig.Once, i, wrong)), false)
		}
	}
	for i, text := range v.Sig.Path {
		for place := range len(text) {
			wantVote(t, "a bit of Path turned", keys, 5, checkRoot(), withPath(v, changedAt(v.Sig.Path, i, turned(text, place))), false)
		}
		for _, wrong := range []string{"", text[:31], text + "\x00"} {
			wantVote(t, "a text in Path", keys, 5, checkRoot(), withPath(v, changedAt(v.Sig.Path, i, wrong)), false)
		}
	}
	for _, path := range [][]string{nil, v.Sig.Path[:1], v.Sig.Path[1:], append(slices.Clone(v.Sig.Path), v.Sig.Path[0]), append(slices.Clone(v.Sig.Path), ""), {v.Sig.Path[1], v.Sig.Path[0]}} {
		wantVote(t, "another Path", keys, 5, checkRoot(), withPath(v, path), false)
	}
	for _, once := range [][]string{nil, v.Sig.Once[:18], v.Sig.Once[1:], append(slices.Clone(v.Sig.Once), v.Sig.Once[0])} {
		wantVote(t, "another Once", keys, 5, checkRoot(), withOnce(v, once), false)
	}
	for _, i := range append(slices.Clone(noIndexes), 0, 1, 3) {
		other := v
		other.Sig.Index = i
		wantVote(t, "another Index", keys, 5, checkRoot(), other, false)
	}
	wantVote(t, "nothing signed", keys, 5, checkRoot(), impl.Vote{Node: 1}, false)
	wantVote(t, "nothing", keys, 5, checkRoot(), impl.Vote{}, false)
	// A signature of the checkpoint's own bytes is none of its text.
	_, sig := signed(t, impl.Signer{Seed: nodeSeed(1)}, plainNumber(5)+checkRoot())
	wantVote(t, "another text", keys, 5, checkRoot(), impl.Vote{Node: 1, Sig: sig}, false)
}

// What is refused has no text: signatures of "" do not hold for it.
func TestSignaturesOfNoText(t *testing.T) {
	keys := nodeKeys(t, 3)
	var votes []impl.Vote
	for node := range int64(3) {
		_, sig := signed(t, impl.Signer{Seed: nodeSeed(node)}, "")
		votes = append(votes, impl.Vote{Node: node, Sig: sig})
	}
	for _, index := range append(wrongIndexes(), 0, 5) {
		for _, root := range append(wrongRoots(), checkRoot()) {
			for _, v := range votes {
				wantVote(t, "a signature of no text", keys, index, root, v, false)
			}
			wantCert(t, "signatures of no text", keys, certOf(index, root, votes...), false)
			wantNotGathered(t, "signatures of no text", keys, index, root, votes)
		}
	}
}

func TestNumbersOfKeys(t *testing.T) {
	all := nodeKeys(t, 9)
	for n := range 10 {
		for node := range int64(7) {
			v := voteOf(t, node, 0, 5, checkRoot())
			wantVote(t, "a number of keys", all[:n], 5, checkRoot(), v, n%2 == 1 && n <= 7 && int(node) < n)
		}
		wantVote(t, "Node is the number of keys", all[:n], 5, checkRoot(), onNode(voteOf(t, 0, 0, 5, checkRoot()), int64(n)), false)
		wantVote(t, "Node -1", all[:n], 5, checkRoot(), onNode(voteOf(t, 0, 0, 5, checkRoot()), -1), false)
	}
	for _, keys := range notKeys(t) {
		for node := range int64(min(7, len(keys)+1)) {
			wantVote(t, "keys that are not right", keys, 5, checkRoot(), voteOf(t, node, 0, 5, checkRoot()), false)
		}
	}
	// Keys need not be unlike: what one signs then holds at each of its places.
	same := slices.Repeat(all[:1], 7)
	for node := range int64(7) {
		wantVote(t, "one key at all places", same, 5, checkRoot(), onNode(voteOf(t, 0, 0, 5, checkRoot()), node), true)
	}
}

func wantCert(t *testing.T, why string, keys []string, c impl.Cert, want bool) {
	t.Helper()
	given, givenRoom := withSpare(keys)
	kept := slices.Clone(givenRoom)
	votes, room, rooms := votesRoom(c.Votes)
	if impl.CertOk(given, impl.Cert{Index: c.Index, Root: c.Root, Votes: votes}) != want {
		t.Errorf("CertOk, %s: %d keys, %s: want %v", why, len(keys), shownCert(c), want)
	}
	wantUnwritten(t, "CertOk", c.Votes, room, rooms)
	if !slices.Equal(givenRoom, kept) {
		t.Errorf("CertOk, %s: writes into its keys", why)
	}
}

func certOf(index int64, root string, votes ...impl.Vote) impl.Cert {
	return impl.Cert{Index: index, Root: root, Votes: votes}
}

// Every choice of nodes, of which more than half make a certificate.
func TestCertsOfMoreThanHalf(t *testing.T) {
	all, votes := nodeKeys(t, 7), votesOf(t, 5, checkRoot(), firstNodes(7)...)
	for _, n := range []int{1, 3, 5, 7} {
		for choice := range 1 << n {
			c := certOf(5, checkRoot())
			for node := range n {
				if choice>>node&1 == 1 {
					c.Votes = append(c.Votes, votes[node])
				}
			}
			wantCert(t, "a choice of nodes", all[:n], c, len(c.Votes) >= []int{0, 1, 0, 2, 0, 3, 0, 4}[n])
		}
		wantCert(t, "no votes", all[:n], certOf(5, checkRoot(), []impl.Vote{}...), false)
		wantCert(t, "just all", all[:n], certOf(5, checkRoot(), votes[:n]...), true)
		wantCert(t, "the last one twice", all[:n], certOf(5, checkRoot(), append(slices.Clone(votes[:n]), votes[n-1])...), false)
		wantCert(t, "one behind all", all[:n], certOf(5, checkRoot(), append(slices.Clone(votes[:n]), onNode(votes[0], int64(n)))...), false)
		wantCert(t, "one ahead of all", all[:n], certOf(5, checkRoot(), append([]impl.Vote{onNode(votes[0], -1)}, votes[:n]...)...), false)
		wantCert(t, "many", all[:n], certOf(5, checkRoot(), slices.Repeat(votes[:n], 100)...), false)
	}
}

// orders: the list in every order.
func orders[T any](list []T) [][]T {
	if len(list) == 0 {
		return [][]T{nil}
	}
	var all [][]T
	for i := range list {
		for _, rest := range orders(slices.Delete(slices.Clone(list), i, i+1)) {
			all = append(all, append([]T{list[i]}, rest...))
		}
	}
	return all
}

func TestCertsOfRisingNodes(t *testing.T) {
	keys, votes := nodeKeys(t, 5), votesOf(t, 5, checkRoot(), firstNodes(5)...)
	for _, nodes := range orders(firstNodes(5)) {
		for n := 3; n <= 5; n++ {
			wantCert(t, "an order", keys, certOf(5, checkRoot(), picked(votes, nodes[:n]...)...), slices.IsSorted(nodes[:n]))
		}
	}
	for _, nodes := range [][]int64{{0, 0, 1}, {0, 1, 1}, {0, 1, 2, 2}, {0, 0, 1, 2}, {0, 1, 1, 2}, {0, 0, 0}, {0, 1, 0}, {4, 4, 4}, {0, 1, 0, 1, 2}, {0, 1, 2, 1}} {
		wantCert(t, "a Node twice", keys, certOf(5, checkRoot(), picked(votes, nodes...)...), false)
	}
	// Two unlike votes of one Node, each of which holds.
	again := voteOf(t, 1, 3, 5, checkRoot())
	wantCert(t, "with another leaf", keys, certOf(5, checkRoot(), votes[0], again, votes[2]), true)
	wantCert(t, "a Node twice, with two leaves", keys, certOf(5, checkRoot(), votes[0], votes[1], again), false)
	wantCert(t, "a Node twice, with two leaves", keys, certOf(5, checkRoot(), votes[0], votes[1], again, votes[2]), false)
	// One key at all places: Nodes rise all the same.
	same := slices.Repeat(keys[:1], 3)
	wantCert(t, "one key, two Nodes", same, certOf(5, checkRoot(), votes[0], onNode(votes[0], 2)), true)
	wantCert(t, "one key, one Node", same, certOf(5, checkRoot(), votes[0], votes[0]), false)
}

func TestCertsThatDoNotHold(t *testing.T) {
	for _, n := range []int{1, 3, 5, 7} {
		keys, votes := nodeKeys(t, n), votesOf(t, 5, checkRoot(), firstNodes(n)...)
		c := certOf(5, checkRoot(), votes...)
		wantCert(t, "all", keys, c, true)
		for place, v := range votes {
			for _, wrong := range []impl.Vote{{Node: v.Node}, withPath(v, v.Sig.Path[:1]), withPath(v, nil), withOnce(v, changedAt(v.Sig.Once, 18, hash(1))), voteOf(t, v.Node, 1, 6, checkRoot()), voteOf(t, v.Node, 1, 5, hash(1)), onNode(voteOf(t, (v.Node+1)%7, 0, 5, checkRoot()), v.Node)} {
				some := slices.Clone(votes)
				some[place] = wrong
				wantCert(t, "a vote that does not hold", keys, certOf(5, checkRoot(), some...), false)
			}
		}
		for _, index := range append(wrongIndexes(), 4, 6, 0, impl.MaxNumber) {
			wantCert(t, "another Index", keys, certOf(index, checkRoot(), votes...), false)
		}
		for _, root := range append(wrongRoots(), hash(1), impl.EmptyRoot()) {
			wantCert(t, "another Root", keys, certOf(5, root, votes...), false)
		}
		for place := range keys {
			wantCert(t, "another key", changedAt(keys, place, hash(1)), c, false)
		}
		wantCert(t, "nothing", keys, impl.Cert{}, false)
	}
	for _, keys := range notKeys(t) {
		for n := range min(8, len(keys)+2) {
			wantCert(t, "keys that are not right", keys, certOf(5, checkRoot(), votesOf(t, 5, checkRoot(), firstNodes(min(n, 7))...)...), false)
		}
		wantCert(t, "keys that are not right", keys, impl.Cert{}, false)
	}
	for _, index := range []int64{0, 255, 256, impl.MaxNumber} {
		wantCert(t, "an Index", nodeKeys(t, 3), certOf(index, checkRoot(), votesOf(t, index, checkRoot(), 0, 2)...), true)
	}
}

// plainGathered: by the document's words, of keys that are right.
func plainGathered(keys []string, index int64, root string, votes []impl.Vote) (impl.Cert, bool) {
	c := certOf(index, root)
	for node := range int64(len(keys)) {
		place := slices.IndexFunc(votes, func(v impl.Vote) bool { return v.Node == node && impl.VoteOk(keys, index, root, v) })
		if place >= 0 && 2*len(c.Votes) < len(keys) {
			c.Votes = append(c.Votes, votes[place])
		}
	}
	if 2*len(c.Votes) < len(keys) || len(votes) > 50 {
		return impl.Cert{}, false
	}
	return c, true
}

func wantGathered(t *testing.T, why string, keys []string, index int64, root string, votes []impl.Vote, want impl.Cert, wantOk bool) {
	t.Helper()
	given, givenRoom := withSpare(keys)
	kept := slices.Clone(givenRoom)
	copied, room, rooms := votesRoom(votes)
	c, ok := impl.Gathered(given, index, root, copied)
	if ok != wantOk || !sameCert(c, want) {
		t.Errorf("Gathered, %s: %d keys, index %d, %s: %s, %v; want %s, %v", why, len(keys), index, shownVotes(votes), shownCert(c), ok, shownCert(want), wantOk)
	}
	if ok {
		wantCert(t, why+", gathered", keys, c, true)
		for i := range c.Votes {
			less := c
			less.Votes = slices.Delete(slices.Clone(c.Votes), i, i+1)
			wantCert(t, why+", with a vote less", keys, less, false)
		}
	}
	overwriteCert(c)
	wantUnwritten(t, "Gathered", votes, room, rooms)
	if !slices.Equal(givenRoom, kept) {
		t.Errorf("Gathered, %s: shares memory with its keys or writes into them", why)
	}
}

func wantNotGathered(t *testing.T, why string, keys []string, index int64, root string, votes []impl.Vote) {
	t.Helper()
	wantGathered(t, why, keys, index, root, votes, impl.Cert{}, false)
}

func TestGatheringInEveryOrder(t *testing.T) {
	for _, n := range []int{1, 3, 5} {
		keys, votes := nodeKeys(t, n), votesOf(t, 5, checkRoot(), firstNodes(n)...)
		for _, nodes := range orders(firstNodes(n)) {
			for count := range n + 1 {
				some := picked(votes, nodes[:count]...)
				if count <= n/2 {
					wantNotGathered(t, "too few", keys, 5, checkRoot(), some)
					wantNotGathered(t, "too few, twice", keys, 5, checkRoot(), append(slices.Clone(some), some...))
					continue
				}
				taken := slices.Sorted(slices.Values(nodes[:count]))[:n/2+1]
				want := certOf(5, checkRoot(), picked(votes, taken...)...)
				wantGathered(t, "an order", keys, 5, checkRoot(), some, want, true)
			}
		}
	}
	keys, votes := nodeKeys(t, 7), votesOf(t, 5, checkRoot(), firstNodes(7)...)
	for choice := range 1 << 7 {
		var nodes []int64
		for node := range int64(7) {
			if choice>>node&1 == 1 {
				nodes = append(nodes, node)
			}
		}
		some := picked(votes, nodes...)
		slices.Reverse(some)
		if len(nodes) < 4 {
			wantNotGathered(t, "too few of seven", keys, 5, checkRoot(), some)
		} else {
			wantGathered(t, "a choice of seven", keys, 5, checkRoot(), some, certOf(5, checkRoot(), picked(votes, nodes[:4]...)...), true)
		}
	}
}

func TestVotesThatStandTwice(t *testing.T) {
	keys, votes := nodeKeys(t, 5), votesOf(t, 5, checkRoot(), firstNodes(5)...)
	for _, c := range []struct{ list, want []int64 }{
		{[]int64{0, 0, 1, 1, 2, 2}, []int64{0, 1, 2}}, {[]int64{4, 4, 4, 3, 0, 0}, []int64{0, 3, 4}}, {[]int64{2, 1, 2, 1, 0}, []int64{0, 1, 2}},
		{[]int64{4, 3, 2, 1, 0, 0, 1, 2, 3, 4}, []int64{0, 1, 2}}, {[]int64{3, 3, 4, 4, 3, 1}, []int64{1, 3, 4}},
	} {
		wantGathered(t, "votes twice", keys, 5, checkRoot(), picked(votes, c.list...), certOf(5, checkRoot(), picked(votes, c.want...)...), true)
	}
	for _, list := range [][]int64{{0, 0, 0}, {0, 0, 0, 0, 0}, {0, 1, 0, 1, 0, 1}, {4, 4, 3, 3}, {2}} {
		wantNotGathered(t, "few Nodes, many votes", keys, 5, checkRoot(), picked(votes, list...))
	}
}

func TestTheFirstVoteThatHoldsIsTaken(t *testing.T) {
	keys, votes := nodeKeys(t, 3), votesOf(t, 5, checkRoot(), 0, 1, 2)
	for node := range int64(3) {
		other := (node + 1) % 3
		good, again, third := votes[node], voteOf(t, node, 1, 5, checkRoot()), voteOf(t, node, 3, 5, checkRoot())
		bad := withPath(good, good.Sig.Path[:1])
		late := voteOf(t, node, 2, 6, checkRoot())
		for _, c := range []struct {
			why   string
			list  []impl.Vote
			taken impl.Vote
		}{
			{"the first does not hold", []impl.Vote{bad, good}, good}, {"the second does not hold", []impl.Vote{good, bad}, good},
			{"both hold", []impl.Vote{good, again}, good}, {"both hold", []impl.Vote{again, good}, again},
			{"three hold", []impl.Vote{third, good, again}, third}, {"three hold", []impl.Vote{again, third, good}, again},
			{"the first is for another index", []impl.Vote{late, again, good}, again}, {"two do not hold", []impl.Vote{bad, late, third, good}, third},
			{"one does not hold in between", []impl.Vote{good, bad, again}, good}, {"nothing signed ahead", []impl.Vote{{Node: node}, again}, again},
		} {
			want := []impl.Vote{c.taken, votes[other]}
			slices.SortFunc(want, func(a, b impl.Vote) int { return int(a.Node - b.Node) })
			for _, list := range [][]impl.Vote{append(slices.Clone(c.list), votes[other]), append([]impl.Vote{votes[other]}, c.list...), slices.Insert(slices.Clone(c.list), 1, votes[other])} {
				wantGathered(t, c.why, keys, 5, checkRoot(), list, certOf(5, checkRoot(), want...), true)
			}
		}
		for _, list := range [][]impl.Vote{{bad, votes[other]}, {late, votes[other]}, {bad, late, bad, votes[other]}, {good, again, third}} {
			wantNotGathered(t, "one alone holds", keys, 5, checkRoot(), list)
		}
	}
	for _, v := range []impl.Vote{onNode(votes[0], 3), onNode(votes[0], -1), onNode(votes[0], 256), onNode(votes[0], math.MaxInt64), onNode(votes[0], math.MinInt64), onNode(votes[1], 0), {}} {
		wantNotGathered(t, "a Node that is none", keys, 5, checkRoot(), []impl.Vote{v, votes[2]})
		wantGathered(t, "a Node that is none", keys, 5, checkRoot(), []impl.Vote{v, votes[2], v, votes[0]}, certOf(5, checkRoot(), votes[0], votes[2]), true)
	}
}

func TestHowManyVotesAreGathered(t *testing.T) {
	keys, votes := nodeKeys(t, 3), votesOf(t, 5, checkRoot(), 0, 1, 2)
	want := certOf(5, checkRoot(), votes[0], votes[2])
	bad := impl.Vote{Node: 1}
	for _, v := range []impl.Vote{votes[0], bad, onNode(votes[0], 9)} {
		for n := range 60 {
			list := append(slices.Repeat([]impl.Vote{v}, n), votes[2], votes[0])
			if len(list) <= 50 {
				wantGathered(t, "many votes", keys, 5, checkRoot(), list, want, true)
			} else {
				wantNotGathered(t, "more than 50 votes", keys, 5, checkRoot(), list)
			}
		}
	}
	wantNotGathered(t, "51 votes, enough ahead", keys, 5, checkRoot(), append(slices.Clone(votes), slices.Repeat([]impl.Vote{bad}, 48)...))
	wantGathered(t, "50 votes, enough ahead", keys, 5, checkRoot(), append(slices.Clone(votes), slices.Repeat([]impl.Vote{bad}, 47)...), certOf(5, checkRoot(), votes[:2]...), true)
	wantNotGathered(t, "50 votes, too few", keys, 5, checkRoot(), slices.Repeat(votes[:1], 50))
	for _, list := range [][]impl.Vote{nil, {}} {
		for _, n := range []int{0, 1, 2, 3, 5, 7, 8} {
			wantNotGathered(t, "no votes", nodeKeys(t, n), 5, checkRoot(), list)
		}
	}
}

func TestNothingIsGathered(t *testing.T) {
	votes := votesOf(t, 5, checkRoot(), firstNodes(7)...)
	for _, keys := range notKeys(t) {
		wantNotGathered(t, "keys that are not right", keys, 5, checkRoot(), votes)
		wantNotGathered(t, "keys that are not right", keys, 5, checkRoot(), nil)
		wantNotGathered(t, "keys that are not right", keys, -1, "", slices.Repeat(votes, 8))
	}
	for _, n := range []int{1, 3, 5, 7} {
		keys := nodeKeys(t, n)
		wantGathered(t, "all", keys, 5, checkRoot(), votes, certOf(5, checkRoot(), votes[:n/2+1]...), true)
		for _, index := range append(wrongIndexes(), 4, 6, 0) {
			wantNotGathered(t, "another index", keys, index, checkRoot(), votes)
		}
		for _, root := range append(wrongRoots(), hash(1), impl.EmptyRoot()) {
			wantNotGathered(t, "another root", keys, 5, root, votes)
		}
	}
	for _, index := range []int64{0, 255, 256, impl.MaxNumber} {
		some := votesOf(t, index, impl.EmptyRoot(), 2, 1)
		wantGathered(t, "an index", nodeKeys(t, 3), index, impl.EmptyRoot(), some, certOf(index, impl.EmptyRoot(), some[1], some[0]), true)
	}
}

// randomVotes: of some nodes, some of them more than once, some that do not hold.
func randomVotes(t *testing.T, source *rand.Rand, n int) []impl.Vote {
	var votes []impl.Vote
	for range source.Intn(2*n + 3) {
		v := voteOf(t, int64(source.Intn(min(n+1, 7))), int64(source.Intn(2)), 5, checkRoot())
		switch source.Intn(6) {
		case 0:
			v = withPath(v, []string{v.Sig.Path[1], v.Sig.Path[0]})
		case 1:
			v = onNode(v, int64(source.Intn(n+2))-1)
		}
		votes = append(votes, v)
	}
	return votes
}

func TestGatheringRandomVotes(t *testing.T) {
	source := rand.New(rand.NewSource(11))
	gathered := 0
	for range 60 {
		n := []int{1, 3, 5, 7}[source.Intn(4)]
		keys, votes := nodeKeys(t, n), randomVotes(t, source, n)
		first, firstOk := plainGathered(keys, 5, checkRoot(), votes)
		for range 4 {
			want, ok := plainGathered(keys, 5, checkRoot(), votes)
			wantGathered(t, "random votes", keys, 5, checkRoot(), votes, want, ok)
			oneNode := func(a, b impl.Vote) bool { return a.Node == b.Node }
			if ok != firstOk || !slices.EqualFunc(want.Votes, first.Votes, oneNode) {
				t.Errorf("another order of %s: %s, %v", shownVotes(votes), shownCert(want), ok)
			}
			source.Shuffle(len(votes), func(i, j int) { votes[i], votes[j] = votes[j], votes[i] })
		}
		if firstOk {
			gathered++
		}
	}
	if gathered < 10 || gathered > 50 {
		t.Errorf("%d of 60 were gathered", gathered)
	}
}

func TestGatheredVotesShareNoMemory(t *testing.T) {
	keys := slices.Repeat(nodeKeys(t, 1), 7)
	v := voteOf(t, 0, 0, 5, checkRoot())
	var votes []impl.Vote
	for node := range int64(7) {
		votes = append(votes, onNode(v, node))
	}
	first, ok := impl.Gathered(keys, 5, checkRoot(), votes)
	second, again := impl.Gathered(keys, 5, checkRoot(), votes)
	if !ok || !again || len(first.Votes) != 4 || !sameCert(first, second) {
		t.Fatalf("one key at all places: %s, %v", shownCert(first), ok)
	}
	for i := range first.Votes {
		overwriteVote(&first.Votes[i])
		for _, other := range first.Votes[i+1:] {
			if !sameSignature(other.Sig, second.Votes[i].Sig) {
				t.Fatal("two votes of one answer share memory")
			}
		}
		if !sameCert(second, certOf(5, checkRoot(), votes[:4]...)) {
			t.Fatal("two answers, or an answer and an argument, share memory")
		}
	}
	clear(second.Votes[0].Sig.Once)
	if !slices.Equal(second.Votes[0].Sig.Path, v.Sig.Path) {
		t.Error("Once and Path share memory")
	}
}

// What was started to ask for votes has come to its end when the call answers.
func TestGatheringLeavesNothingRunning(t *testing.T) {
	keys, votes := nodeKeys(t, 7), votesOf(t, 5, checkRoot(), firstNodes(7)...)
	ahead := runtime.NumGoroutine()
	for range 50 {
		impl.Gathered(keys, 5, checkRoot(), votes)
		impl.Gathered(keys, 5, checkRoot(), votes[:3])
		impl.Gathered(keys, 5, "", votes)
		impl.Gathered(keys[:6], 5, checkRoot(), votes)
		impl.Gathered(keys, 5, checkRoot(), slices.Repeat(votes, 8))
	}
	// One that has said its last may still be on its way out.
	for range 1000 {
		if runtime.NumGoroutine() <= ahead {
			return
		}
		time.Sleep(time.Millisecond)
	}
	t.Errorf("%d goroutines, %d ahead", runtime.NumGoroutine(), ahead)
}
