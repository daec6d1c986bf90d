package tests

import (
	"math/rand"
	"slices"
	"strings"
	"testing"

	"loop.example/g00226/impl"
)

// plainSet: the pairs with this value for the key, or without the key when value is "".
func plainSet(list []impl.Pair, key, value string) []impl.Pair {
	var out []impl.Pair
	for _, pair := range list {
		if pair.Key != key {
			out = append(out, pair)
		}
	}
	if value != "" {
		out = append(out, impl.Pair{Key: key, Value: value})
	}
	sortPairs(out)
	return out
}

// plainTexts: the texts of the pairs' trie, made by the document's words, and its root.
func plainTexts(t *testing.T, pairs []impl.Pair) ([]string, string) {
	t.Helper()
	nodes := map[string]string{}
	root := plainTrie(t, pairs, nodes)
	var texts []string
	for _, text := range nodes {
		texts = append(texts, text)
	}
	return texts, root
}

// textsIn: the texts of these stores, one behind the other.
func textsIn(stores ...[]impl.Stored) []string {
	var texts []string
	for _, list := range stores {
		for _, stored := range list {
			texts = append(texts, stored.Text)
		}
	}
	return texts
}

// withRoom: a copy of the store with spare room behind it, and all of that room.
func withRoom(list []impl.Stored) (copied, room []impl.Stored) {
	room = append(slices.Clone(list), impl.Stored{Hash: "spare"}, impl.Stored{Hash: "spare"})
	return room[:len(list)], room
}

// wantUpdated makes a put, or a cut when value is "", and wants what the document's words make of the pairs.
func wantUpdated(t *testing.T, list []impl.Stored, pairs []impl.Pair, key, value string) ([]impl.Stored, []impl.Pair, string) {
	t.Helper()
	old, root := plainTexts(t, pairs)
	then := plainSet(pairs, key, value)
	texts, want := plainTexts(t, then)
	wanted := storeOf(append(append(old, texts...), textsIn(list)...)...)
	given, room := withRoom(list)
	kept := slices.Clone(room)
	all, next, ok := impl.Put(given, root, key, value)
	if value == "" {
		all, next, ok = impl.Cut(given, root, key)
	}
	if !ok || next != want || !slices.Equal(all, wanted) {
		t.Errorf("%.60q with %q, %.20q: %x, %d nodes, %v; want %x, %d", pairs, key, value, next, len(all), ok, want, len(wanted))
	}
	wantPairsAt(t, all, next, then)
	for i := range all {
		all[i] = impl.Stored{}
	}
	if !slices.Equal(room, kept) {
		t.Errorf("%q, %.20q: written into an argument", key, value)
	}
	return wanted, then, want
}

func wantNotPut(t *testing.T, why string, list []impl.Stored, root, key, value string) {
	t.Helper()
	if all, next, ok := impl.Put(list, root, key, value); ok || next != "" || len(all) != 0 {
		t.Errorf("Put, %s: %d nodes, %x, %v", why, len(all), next, ok)
	}
}

func wantNotCut(t *testing.T, why string, list []impl.Stored, root, key string) {
	t.Helper()
	if all, next, ok := impl.Cut(list, root, key); ok || next != "" || len(all) != 0 {
		t.Errorf("Cut, %s: %d nodes, %x, %v", why, len(all), next, ok)
	}
}

// shownStore: a digest of all of it.
func shownStore(list []impl.Stored) string {
	all := ""
	for _, stored := range list {
		all += stored.Hash + stored.Text
	}
	return impl.Hex(librarySum(all))
}

// The digests were worked out apart from the program.
func TestKnownUpdates(t *testing.T) {
	var list []impl.Stored
	root := impl.EmptyRoot()
	for _, c := range []struct {
		key, value, root string
		count            int
		all              string
		live             int
		reached          string
	}{
		{"dog", "puppy", "a204eab5e174de51ca39d096bd908bb4ad4c96c01f29cadcc526bc002351f65f", 1, "56eae6d4330e9e9c6894bfced0754aee5f82110d15ef50a48747dae56ebd4c94", 1, "6c8c8710c720d4028e06bd9e7ce5d3efaa3df4ab7f389edeaa7f07dd6d1c8834"},
		{"do", "verb", "b804ed1ea4c7b8b2de8c4355823111cb1a2ee4b32bf5a4ca6ab534efea623963", 4, "f40f025531c798d324ac4e35ca31d4c7bcdb907127a0a07c99090072e7ff1ae6", 3, "6645bd24d5f5fb727d4372a2c035e29a2cf6ab03c75d518d10f7db1448ac6557"},
		{"doge", "coin", "19e58eb4649ea1a1663025301cd82ef6f1002736fb1bbe4bf9920865bc12f22e", 9, "07f53f4ca63e62e2c515dcf15b89707c2a56cb013dd0d94c97f27625446a0843", 5, "6d7cecf499c75f0de6c71111953fd8c0365f6bc8af0464ad55cd3561ef7a6117"},
		{"horse", "stallion", "116e164525ef2fa7d4da69dc9300748b2082c52a4f9c57c77b03ce992642a63c", 13, "c53337fa46c3ff1e8198473804d2ae53440bbf13f446914c73fc948cfc921868", 8, "a316b1ea3a9945dd8d2c78a2f7893c9210b63ecbf80a080d257c3a30ee1baae9"},
		{"", "root", "24e87a564854ef3fd118611057c27a6cd793fd0a418cf7961f11c807f48e8254", 14, "b4f640a97a70447c9275d04ea8e34b79374db816718cd5e5eb499226dbdceb02", 8, "0267b2f27784cc342a7ad77e0713999dc276cdb91706be4d3cb43fe57b6bd792"},
		{"dog", "hound", "4e5bc02b132fb4ac561477dc2f9f203757b8008a30dbb580f6402274f7b19484", 20, "ad8e644117f0eb830fb9d9f2aefd22a185b36f8eb52a7197a79e866da312806c", 8, "2166dc27ea6d1fd8a2b23cc26c52d0a36d5e36c35f2ad0dcbe95a933a05f9b9c"},
		{"do", "", "1533db74344eee1e86df22651c02ddd5dd49fad67fe815ca14401fa8d938a0d5", 23, "2fa47e3e65dd5a3197be660f8865c3c4f39f4d1cf14c2ab339bee845472a0038", 6, "90b05a098ac457b2cce91c756effa3067b3965e9169299b27a9cd3552b389936"},
		{"none", "", "1533db74344eee1e86df22651c02ddd5dd49fad67fe815ca14401fa8d938a0d5", 23, "2fa47e3e65dd5a3197be660f8865c3c4f39f4d1cf14c2ab339bee845472a0038", 6, "90b05a098ac457b2cce91c756effa3067b3965e9169299b27a9cd3552b389936"},
		{"horse", "", "6ac0b768e1fb144171540906dafd1f44aeee8db29bbdeeb83f36640618b47555", 25, "1ecd8ef0613053110cfe840eb5afab7f932c80c97c56ce576bd133af9d759de2", 4, "0e431e8af1208d90216b3502f7778d7537f79a44584fc913bb94e34cf654bf45"},
		{"", "", "da53455bee85295718f23f955bdf7c6a1ea39f9f410a309086f9e5c85b853566", 26, "1251b4ce2781a3c4bba455c9b93cc390e1df7754b6bcaf9b97b59b98b63cae7f", 3, "c78554438897547f0e226e8599bc29e17f28eb1adc5f58201eaef08a8e12c2ee"},
		{"dog", "", "0018d18172b7429c422bdf5a430f029a963fc6cfb6bd9f2b37b6513624af5228", 27, "7a5611b61c545aa2af85c72f770b6927f846a91bb35035d504e956f1ff92a91a", 1, "c79b5d21410a35575860758d50334d6f887a7d2fe0a23aaa8ab962729a9e74e0"},
		{"doge", "", "76be8b528d0075f7aae98d6fa57a6d3c83ae480a8469e668d7b0af968995ac71", 27, "7a5611b61c545aa2af85c72f770b6927f846a91bb35035d504e956f1ff92a91a", 0, "e3b0c44298fc1c149afbf4c8996fb92427ae41e4649b934ca495991b7852b855"},
	} {
		var ok bool
		if c.value == "" {
			list, root, ok = impl.Cut(list, root, c.key)
		} else {
			list, root, ok = impl.Put(list, root, c.key, c.value)
		}
		if !ok || impl.Hex(root) != c.root || len(list) != c.count || shownStore(list) != c.all {
			t.Fatalf("%q, %q: %x, %d nodes, %v", c.key, c.value, root, len(list), ok)
		}
		hashes, ok := impl.Reached(list, root)
		if !ok || len(hashes) != c.live || impl.Hex(librarySum(strings.Join(hashes, ""))) != c.reached {
			t.Errorf("Reached behind %q, %q: %x, %v", c.key, c.value, hashes, ok)
		}
	}
}

func TestPutAtEveryPlace(t *testing.T) {
	for _, pairs := range pairSets() {
		nodes := trieNodes(t, pairs)
		keys := []string{"", "\x00", "a", "\xff", "\xff\xff\xff\xff\xff\xff\xff\xff\xff\xff\xff\xff"}
		for _, pair := range pairs[:min(len(pairs), 14)] {
			keys = append(append(keys, pair.Key), keysBeside(pair.Key)...)
		}
		for _, pair := range pairs {
			wantUpdated(t, nodes, pairs, pair.Key, "another one")
			wantUpdated(t, nodes, pairs, pair.Key, pair.Value)
		}
		for _, key := range keys {
			switch old := valueIn(pairs, key); {
			case len(key) > impl.MaxKey:
				wantNotPut(t, "a long key", nodes, trieRoot(t, pairs), key, "x")
			case old == "" && len(pairs) == impl.MaxPairs:
				wantNotPut(t, "the 61st pair", nodes, trieRoot(t, pairs), key, "x")
			default:
				wantUpdated(t, nodes, pairs, key, "x")
			}
		}
	}
}

func TestCutAtEveryPlace(t *testing.T) {
	for _, pairs := range pairSets() {
		nodes, root := trieNodes(t, pairs), trieRoot(t, pairs)
		for _, pair := range pairs {
			wantUpdated(t, nodes, pairs, pair.Key, "")
		}
		for _, pair := range pairs[:min(len(pairs), 14)] {
			for _, key := range keysBeside(pair.Key) {
				if len(key) > impl.MaxKey {
					wantNotCut(t, "a long key", nodes, root, key)
					continue
				}
				_, _, then := wantUpdated(t, nodes, pairs, key, "")
				if valueIn(pairs, key) == "" && then != root {
					t.Errorf("Cut of %q, which is not there: the root changes", key)
				}
			}
		}
	}
}

// wantShapes: a put, or a cut when value is "", that makes just these nodes, the root's first, beside those that there were.
func wantShapes(t *testing.T, why string, pairs []impl.Pair, key, value string, texts ...string) {
	t.Helper()
	list, root := trieNodes(t, pairs), trieRoot(t, pairs)
	all, next, ok := impl.Put(list, root, key, value)
	if value == "" {
		all, next, ok = impl.Cut(list, root, key)
	}
	if !ok || next != librarySum(texts[0]) || !slices.Equal(all, storeOf(append(textsIn(list), texts...)...)) {
		t.Errorf("%s: %x, %q, %v", why, next, textsIn(all), ok)
	}
	hashes, ok := impl.Reached(all, next)
	if live := storeOf(texts...); !ok || len(hashes) != len(live) {
		t.Errorf("%s: %d nodes are reached, %v; want %d", why, len(hashes), ok, len(live))
	}
}

func TestPutIntoEachKind(t *testing.T) {
	one, two, three := leafItem(t, "", "1"), leafItem(t, "", "2"), leafItem(t, "", "3")
	leaf := pairsOf("a", "1")
	both := branchItem(t, map[int]string{1: one, 2: two}, "")
	wantShapes(t, "into nothing", nil, "a", "1", leafItem(t, "\x06\x01", "1"))
	wantShapes(t, "a leaf's value", leaf, "a", "2", leafItem(t, "\x06\x01", "2"))
	wantShapes(t, "a leaf's own value", leaf, "a", "1", leafItem(t, "\x06\x01", "1"))
	wantShapes(t, "beside a leaf", leaf, "b", "2", longItem(t, "\x06", both), both, one, two)
	wantShapes(t, "far from a leaf", leaf, "\x00", "2", branchItem(t, map[int]string{0: leafItem(t, "\x00", "2"), 6: leafItem(t, "\x01", "1")}, ""), leafItem(t, "\x00", "2"), leafItem(t, "\x01", "1"))
	below := branchItem(t, map[int]string{6: leafItem(t, "\x02", "2")}, "1")
	wantShapes(t, "below a leaf", leaf, "ab", "2", longItem(t, "\x06\x01", below), below, leafItem(t, "\x02", "2"))
	wantShapes(t, "above a leaf", leaf, "", "2", branchItem(t, map[int]string{6: leafItem(t, "\x01", "1")}, "2"), leafItem(t, "\x01", "1"))

	long := pairsOf("ga", "1", "gb", "2")
	wantShapes(t, "a long one stays", long, "gb", "3", longItem(t, "\x06\x07\x06", branchItem(t, map[int]string{1: one, 2: three}, "")), branchItem(t, map[int]string{1: one, 2: three}, ""), one, three)
	top := branchItem(t, map[int]string{6: longItem(t, "\x07\x06", both), 7: leafItem(t, "\x00", "3")}, "")
	wantShapes(t, "ahead of a long one", long, "p", "3", top, longItem(t, "\x07\x06", both), leafItem(t, "\x00", "3"), both, one, two)
	middle := branchItem(t, map[int]string{7: longItem(t, "\x06", both), 8: three}, "")
	wantShapes(t, "into a long one", long, "h", "3", longItem(t, "\x06", middle), middle, longItem(t, "\x06", both), three, both, one, two)
	end := branchItem(t, map[int]string{6: both, 7: leafItem(t, "\x01", "3")}, "")
	wantShapes(t, "at the end of a long one", long, "gq", "3", longItem(t, "\x06\x07", end), end, leafItem(t, "\x01", "3"), both, one, two)
	value := branchItem(t, map[int]string{6: both}, "3")
	wantShapes(t, "a value in a long one", long, "g", "3", longItem(t, "\x06\x07", value), value, both, one, two)
	wantShapes(t, "a value above a long one", long, "", "3", branchItem(t, map[int]string{6: longItem(t, "\x07\x06", both)}, "3"), longItem(t, "\x07\x06", both), both, one, two)

	branch := pairsOf("\x00", "1", "\x10", "2")
	low, high := leafItem(t, "\x00", "1"), leafItem(t, "\x00", "2")
	wantShapes(t, "a kid of a branch", branch, "\xf0", "3", branchItem(t, map[int]string{0: low, 1: high, 15: leafItem(t, "\x00", "3")}, ""), low, high, leafItem(t, "\x00", "3"))
	wantShapes(t, "a value in a branch", branch, "", "3", branchItem(t, map[int]string{0: low, 1: high}, "3"), low, high)
	deeper := branchItem(t, map[int]string{0: two, 5: three}, "")
	wantShapes(t, "below a branch", branch, "\x15", "3", branchItem(t, map[int]string{0: low, 1: deeper}, ""), low, deeper, two, three)
	wantShapes(t, "a branch's value anew", pairsOf("", "3", "\x00", "1"), "", "2", branchItem(t, map[int]string{0: low}, "2"), low)
}

func TestCutOfEachKind(t *testing.T) {
	one, two := leafItem(t, "", "1"), leafItem(t, "", "2")
	both := branchItem(t, map[int]string{1: one, 2: two}, "")
	wantShapes(t, "a branch becomes a leaf", pairsOf("\x00", "1", "\x10", "2"), "\x00", "", leafItem(t, "\x01\x00", "2"))
	wantShapes(t, "a branch becomes a leaf, its value goes", pairsOf("", "1", "\x10", "2"), "", "", leafItem(t, "\x01\x00", "2"))
	wantShapes(t, "a branch becomes a leaf, its kid goes", pairsOf("", "1", "\x10", "2"), "\x10", "", one)
	wantShapes(t, "a long one and its branch become a leaf", pairsOf("a", "1", "b", "2"), "b", "", leafItem(t, "\x06\x01", "1"))
	wantShapes(t, "a leaf grows below a branch", pairsOf("\x00", "1", "\x10", "2", "\x11", "3"), "\x11", "", branchItem(t, map[int]string{0: leafItem(t, "\x00", "1"), 1: leafItem(t, "\x00", "2")}, ""), leafItem(t, "\x00", "1"), leafItem(t, "\x00", "2"))
	wantShapes(t, "a branch becomes a long one", pairsOf("", "0", "a", "1", "b", "2"), "", "", longItem(t, "\x06", both), both, one, two)
	wantShapes(t, "a branch becomes a long one, a kid goes", pairsOf("a", "1", "b", "2", "\xff", "3"), "\xff", "", longItem(t, "\x06", both), both, one, two)
	wantShapes(t, "a long one grows at its beginning", pairsOf("ga", "1", "gb", "2", "\xff", "3"), "\xff", "", longItem(t, "\x06\x07\x06", both), both, one, two)
	wantShapes(t, "a long one grows at its end", pairsOf("g", "0", "ga", "1", "gb", "2"), "g", "", longItem(t, "\x06\x07\x06", both), both, one, two)
	wantShapes(t, "two long ones grow together", pairsOf("gga", "1", "ggb", "2", "gxx", "3"), "gxx", "", longItem(t, "\x06\x07\x06\x07\x06", both), both, one, two)
	kept := branchItem(t, map[int]string{0: leafItem(t, "\x00", "1"), 1: leafItem(t, "\x00", "2")}, "")
	wantShapes(t, "a branch stays", pairsOf("", "0", "\x00", "1", "\x10", "2"), "", "", kept, leafItem(t, "\x00", "1"), leafItem(t, "\x00", "2"))
	wantShapes(t, "no key of it", pairsOf("a", "1", "b", "2"), "c", "", longItem(t, "\x06", both), both, one, two)

	list, root := trieNodes(t, pairsOf("dog", "1")), trieRoot(t, pairsOf("dog", "1"))
	if all, next, ok := impl.Cut(list, root, "dog"); !ok || next != impl.EmptyRoot() || !slices.Equal(all, list) {
		t.Errorf("Cut of the last pair: %x, %d nodes, %v", next, len(all), ok)
	}
	if all, next, ok := impl.Cut(list, impl.EmptyRoot(), "dog"); !ok || next != impl.EmptyRoot() || !slices.Equal(all, list) {
		t.Errorf("Cut of no pairs: %x, %d nodes, %v", next, len(all), ok)
	}
}

func TestPutAndCutAgain(t *testing.T) {
	for _, pairs := range pairSets() {
		if len(pairs) == impl.MaxPairs {
			pairs = pairs[1:]
		}
		list, root := trieNodes(t, pairs), trieRoot(t, pairs)
		for _, key := range []string{"", "\x00\x01", "dogs", "doing", "b", "zzzzzzzzzzzz", "\xff"} {
			if valueIn(pairs, key) != "" {
				continue
			}
			more, with, _ := wantUpdated(t, list, pairs, key, "for a while")
			if _, then, again := wantUpdated(t, more, with, key, ""); again != root || !slices.Equal(then, pairs) {
				t.Errorf("%.40q, put and cut: %q: %x", pairs, key, again)
			}
		}
	}
}

func TestTwoPutsInEitherOrder(t *testing.T) {
	keys := []string{"", "a", "ab", "b", "\x00", "dog", "dot", "abcdefghijkl", "abcdefghijkm", "\xff"}
	for _, pairs := range [][]impl.Pair{nil, pairsOf("a", "0"), pairsOf("do", "verb", "dog", "puppy"), numberPairs(58), deepPairs()} {
		list := trieNodes(t, pairs)
		for _, a := range keys {
			for _, b := range keys {
				more, with, _ := wantUpdated(t, list, pairs, a, "first")
				_, last, root := wantUpdated(t, more, with, b, "second")
				more, with, _ = wantUpdated(t, list, pairs, b, "second")
				_, other, again := wantUpdated(t, more, with, a, "first")
				if a != b && (root != again || !slices.Equal(last, other)) {
					t.Errorf("%q and %q in either order: %x, %x", a, b, root, again)
				}
				if a == b && (valueIn(last, a) != "second" || valueIn(other, a) != "first" || root == again) {
					t.Errorf("%q twice: %x, %x", a, root, again)
				}
			}
		}
	}
}

func TestPutAtItsLimits(t *testing.T) {
	pairs := pairsOf("do", "verb", "dog", "puppy")
	list, root := trieNodes(t, pairs), trieRoot(t, pairs)
	for _, size := range []int{1, 55, 56, 59, 60} {
		wantUpdated(t, list, pairs, "a", letters(size))
		wantUpdated(t, list, pairs, "do", letters(size))
	}
	for _, value := range []string{"", letters(61), letters(1000)} {
		for _, key := range []string{"", "a", "do", "dog"} {
			wantNotPut(t, "a value of another size", list, root, key, value)
			wantNotPut(t, "a value of another size", nil, impl.EmptyRoot(), key, value)
		}
	}
	wantUpdated(t, list, pairs, letters(12), "x")
	wantUpdated(t, list, pairs, letters(12), "")
	wantUpdated(t, nil, nil, letters(12), "x")
	wantUpdated(t, nil, nil, letters(12), "")
	for _, size := range []int{13, 14, 1000} {
		wantNotPut(t, "a long key", list, root, letters(size), "x")
		wantNotCut(t, "a long key", list, root, letters(size))
		wantNotPut(t, "a long key", nil, impl.EmptyRoot(), letters(size), "x")
		wantNotCut(t, "a long key", nil, impl.EmptyRoot(), letters(size))
	}
	almost, full := numberPairs(60)[:59], numberPairs(60)
	wantUpdated(t, trieNodes(t, almost), almost, full[59].Key, full[59].Value)
	wantUpdated(t, trieNodes(t, full), full, "0", "x")
	wantUpdated(t, trieNodes(t, full), full, "none", "")
	for _, key := range []string{"", "5x", "none"} {
		wantNotPut(t, "the 61st pair", trieNodes(t, full), trieRoot(t, full), key, "x")
	}
}

func TestUpdatesUpTo400Nodes(t *testing.T) {
	pairs := pairsOf("do", "verb", "dog", "puppy")
	root, old := trieRoot(t, pairs), textsIn(trieNodes(t, pairs))
	filled := func(n int) []impl.Stored { return storeOf(append(leafTexts(0, n-len(old)), old...)...) }
	for _, c := range []struct {
		key, value string
		makes      int
	}{{"dog", "hound", 3}, {"a", "1", 4}, {"do", "", 1}, {"dog", "puppy", 0}, {"none", "", 0}} {
		all, _, _ := wantUpdated(t, filled(400-c.makes), pairs, c.key, c.value)
		if len(all) != 400 {
			t.Errorf("%q, %q: %d nodes", c.key, c.value, len(all))
		}
		if c.makes == 0 {
			continue
		}
		if list := filled(401 - c.makes); c.value == "" {
			wantNotCut(t, "401 nodes", list, root, c.key)
		} else {
			wantNotPut(t, "401 nodes", list, root, c.key, c.value)
		}
	}
	wantNotPut(t, "401 nodes", storeOf(leafTexts(0, 400)...), impl.EmptyRoot(), "a", "1")
	wantUpdated(t, storeOf(leafTexts(0, 399)...), nil, "a", "1")
	wantUpdated(t, storeOf(leafTexts(0, 400)...), nil, "a", "")
}

// lostRoots asks of stores with roots at which they have no pairs, one way or another.
func lostRoots(t *testing.T, ask func(why string, list []impl.Stored, root string)) {
	t.Helper()
	pairs := pairsOf("do", "verb", "dog", "puppy", "horse", "stallion")
	list, root := trieNodes(t, pairs), trieRoot(t, pairs)
	for _, wrong := range []string{"", "x", hash(1), root[:31], root + "\x00", impl.EmptyRoot()[:31], impl.EmptyRoot() + "x"} {
		ask("another root", list, wrong)
		ask("another root", nil, wrong)
	}
	ask("no nodes", nil, root)
	for i := range list {
		ask("a node taken out", slices.Delete(slices.Clone(list), i, i+1), root)
	}
	for _, wrong := range wrongStores(t) {
		ask("a store that is not right", wrong, trieRoot(t, pairs[:2]))
		ask("a store that is not right", wrong, impl.EmptyRoot())
	}
	leaf := leafItem(t, "\x01", "1")
	long := longItem(t, "\x06", leaf)
	ask("a root that no pairs have", storeOf(leaf, long), librarySum(long))
	ask("half a key", storeOf(leaf), librarySum(leaf))
}

func TestUpdatesOfARootThatIsNotThere(t *testing.T) {
	lostRoots(t, func(why string, list []impl.Stored, root string) {
		t.Helper()
		for _, key := range []string{"", "do", "dog", "none"} {
			wantNotPut(t, why, list, root, key, "x")
			wantNotCut(t, why, list, root, key)
		}
	})
}

// One store behind many updates: each root that there was still has its pairs.
func TestManyUpdates(t *testing.T) {
	source := rand.New(rand.NewSource(9))
	for range 5 {
		var list []impl.Stored
		var pairs []impl.Pair
		past := map[string][]impl.Pair{}
		root := impl.EmptyRoot()
		for len(list) < 150 {
			key := make([]byte, source.Intn(4))
			for i := range key {
				key[i] = "\x00\x01\x10ab"[source.Intn(5)]
			}
			value := strings.Repeat(oneByte('a'+source.Intn(26)), source.Intn(4))
			list, pairs, root = wantUpdated(t, list, pairs, string(key), value)
			past[root] = pairs
		}
		for root, pairs := range past {
			wantPairsAt(t, list, root, pairs)
			wantPruned(t, list, []string{root}, textsIn(trieNodes(t, pairs))...)
		}
		wantPairsAt(t, list, root, pairs)
	}
}

func wantReached(t *testing.T, list []impl.Stored, root string, texts ...string) {
	t.Helper()
	var want []string
	for _, stored := range storeOf(texts...) {
		want = append(want, stored.Hash)
	}
	given, room := withRoom(list)
	kept := slices.Clone(room)
	hashes, ok := impl.Reached(given, root)
	if !ok || !slices.Equal(hashes, want) {
		t.Errorf("Reached of %d nodes, %x: %x, %v; want %x", len(list), root, hashes, ok, want)
	}
	for i := range hashes {
		hashes[i] = "written"
	}
	if again, _ := impl.Reached(given, root); !slices.Equal(again, want) || !slices.Equal(room, kept) {
		t.Error("Reached shares memory or writes into its argument")
	}
}

func wantNotReached(t *testing.T, why string, list []impl.Stored, root string) {
	t.Helper()
	if hashes, ok := impl.Reached(list, root); ok || len(hashes) != 0 {
		t.Errorf("Reached, %s: %d nodes, %x: %x, %v", why, len(list), root, hashes, ok)
	}
}

func TestReachedOfPairs(t *testing.T) {
	more := leafTexts(0, 50)
	for _, pairs := range pairSets() {
		list, root := trieNodes(t, pairs), trieRoot(t, pairs)
		texts, _ := plainTexts(t, pairs)
		wantReached(t, list, root, texts...)
		wantReached(t, storeOf(append(slices.Clone(more), texts...)...), root, texts...)
		wantReached(t, list, impl.EmptyRoot())
		for i := range min(len(list), 30) {
			wantNotReached(t, "a node taken out", slices.Delete(slices.Clone(list), i, i+1), root)
		}
	}
	wantReached(t, nil, impl.EmptyRoot())
	wantReached(t, storeOf(more...), impl.EmptyRoot())
	for _, text := range more {
		wantReached(t, storeOf(more...), librarySum(text), text)
	}
}

func TestReachedFromTheMiddle(t *testing.T) {
	one, two := leafItem(t, "", "1"), leafItem(t, "", "2")
	both := branchItem(t, map[int]string{1: one, 2: two}, "")
	long := longItem(t, "\x06", both)
	other := leafItem(t, "\x00", "3")
	top := branchItem(t, map[int]string{6: long, 15: other}, "v")
	list := storeOf(one, two, both, long, other, top)
	wantReached(t, list, librarySum(top), top, other, long, both, one, two)
	wantReached(t, list, librarySum(long), long, both, one, two)
	wantReached(t, list, librarySum(both), both, one, two)
	wantReached(t, list, librarySum(two), two)
	wantReached(t, list, librarySum(other), other)
	// What is not there hurts only the roots that lead to it.
	list = storeOf(one, both, long, other, top)
	wantReached(t, list, librarySum(one), one)
	wantReached(t, list, librarySum(other), other)
	for _, text := range []string{top, long, both, two} {
		wantNotReached(t, "a leaf taken out", list, librarySum(text))
	}
	list = storeOf(one, two, both, long, top)
	wantReached(t, list, librarySum(long), long, both, one, two)
	wantNotReached(t, "the last kid taken out", list, librarySum(top))
}

// Right nodes are gone through whether or not pairs have them.
func TestReachedOfWhatNoPairsHave(t *testing.T) {
	leaf := leafItem(t, "\x01", "1")
	inner := longItem(t, "\x06", leaf)
	outer := longItem(t, "\x07\x08", inner)
	wantReached(t, storeOf(leaf, inner, outer), librarySum(outer), outer, inner, leaf)
	far := longItem(t, strings.Repeat("\x06", 24), outer)
	farther := longItem(t, strings.Repeat("\x07", 24), far)
	wantReached(t, storeOf(leaf, inner, outer, far, farther), librarySum(farther), farther, far, outer, inner, leaf)
	wantNotReached(t, "a node far below", storeOf(inner, outer, far, farther), librarySum(farther))

	toEmpty := listOf(t, "\x16", impl.EmptyRoot())
	wantNotReached(t, "EmptyRoot below", storeOf(toEmpty), librarySum(toEmpty))
	branch := listOf(t, append(changedAt(make([]string, 16), 4, impl.EmptyRoot()), "v")...)
	wantNotReached(t, "EmptyRoot below", storeOf(branch), librarySum(branch))
	// A leaf's value may be a hash; no way leads there.
	hashed := leafItem(t, "", hash(1))
	wantReached(t, storeOf(hashed, leaf), librarySum(hashed), hashed)
	valued := branchItem(t, map[int]string{3: leaf}, librarySum(inner))
	wantReached(t, storeOf(valued, leaf, inner), librarySum(valued), valued, leaf)
}

func TestReachedByTwoWays(t *testing.T) {
	same := leafItem(t, "\x02", "s")
	top := branchItem(t, map[int]string{0: same, 1: same, 15: same}, "")
	wantReached(t, storeOf(same, top), librarySum(top), top, same)
	long := longItem(t, "\x05", top)
	above := branchItem(t, map[int]string{2: top, 3: long, 4: same}, "")
	wantReached(t, storeOf(same, top, long, above), librarySum(above), above, long, top, same)
	for _, n := range []int{0, 1, 2, 25, 26, 399} {
		list, root := tower(t, n)
		wantReached(t, list, root, textsIn(list)...)
		wantPruned(t, list, []string{root, root}, textsIn(list)...)
	}
	list, root := tower(t, 399)
	for _, place := range []int{0, 200, 399} {
		wantNotReached(t, "a hole in a tower", slices.Delete(slices.Clone(list), place, place+1), root)
	}
}

func TestNotReached(t *testing.T) {
	pairs := pairsOf("do", "verb", "dog", "puppy")
	list, root := trieNodes(t, pairs), trieRoot(t, pairs)
	for _, wrong := range []string{"", "x", hash(1), root[:31], root + "\x00", impl.EmptyRoot()[:31], impl.EmptyRoot() + "x"} {
		wantNotReached(t, "no root", list, wrong)
		wantNotReached(t, "no root", nil, wrong)
		wantNotPruned(t, "no root", list, wrong)
		wantNotPruned(t, "no root", nil, wrong)
	}
	for _, wrong := range wrongStores(t) {
		wantNotReached(t, "a store that is not right", wrong, root)
		wantNotReached(t, "a store that is not right", wrong, impl.EmptyRoot())
		wantNotPruned(t, "a store that is not right", wrong)
		wantNotPruned(t, "a store that is not right", wrong, root)
		wantNotPruned(t, "a store that is not right", wrong, impl.EmptyRoot())
	}
	for _, text := range leafTexts(0, 3000) {
		hash := librarySum(text)
		if short := strings.TrimRight(hash, "\x00"); short != hash {
			wantNotReached(t, "a piece of a hash", storeOf(text), short)
		}
	}
}

func wantPruned(t *testing.T, list []impl.Stored, roots []string, texts ...string) {
	t.Helper()
	want := storeOf(texts...)
	given, room := withRoom(list)
	kept, keptRoots := slices.Clone(room), slices.Clone(roots)
	out, ok := impl.Pruned(given, roots)
	if !ok || !slices.Equal(out, want) {
		t.Errorf("Pruned of %d nodes to %x: %d, %v; want %d", len(list), roots, len(out), ok, len(want))
	}
	again, ok := impl.Pruned(out, roots)
	if !ok || !slices.Equal(again, want) {
		t.Errorf("Pruned again, to %x: %d, %v; want %d", roots, len(again), ok, len(want))
	}
	for i := range out {
		out[i] = impl.Stored{}
	}
	out = append(out, impl.Stored{})
	if !slices.Equal(room, kept) || !slices.Equal(again, want) || !slices.Equal(roots, keptRoots) {
		t.Error("Pruned shares memory or writes into its argument")
	}
}

func wantNotPruned(t *testing.T, why string, list []impl.Stored, roots ...string) {
	t.Helper()
	if out, ok := impl.Pruned(list, roots); ok || len(out) != 0 {
		t.Errorf("Pruned, %s: %d nodes to %x: %d, %v", why, len(list), roots, len(out), ok)
	}
}

// grownStore: a store behind several updates, with each state's pairs.
func grownStore(t *testing.T) ([]impl.Stored, [][]impl.Pair) {
	t.Helper()
	var list []impl.Stored
	var pairs []impl.Pair
	var states [][]impl.Pair
	for _, c := range pairsOf("do", "verb", "dog", "puppy", "horse", "stallion", "doge", "coin", "", "root", "do", "", "dog", "hound", "zebra", "1", "horse", "") {
		list, pairs, _ = wantUpdated(t, list, pairs, c.Key, c.Value)
		states = append(states, pairs)
	}
	return list, states
}

func TestPruned(t *testing.T) {
	list, states := grownStore(t)
	empty := impl.EmptyRoot()
	wantPruned(t, list, nil)
	wantPruned(t, list, []string{})
	wantPruned(t, nil, nil)
	wantPruned(t, nil, []string{empty})
	wantPruned(t, list, []string{empty})
	wantPruned(t, list, []string{empty, empty})
	for _, a := range states {
		root, texts := trieRoot(t, a), textsIn(trieNodes(t, a))
		wantPruned(t, list, []string{root}, texts...)
		wantPruned(t, list, []string{root, root}, texts...)
		wantPruned(t, list, []string{empty, root}, texts...)
		wantPruned(t, list, []string{root, empty}, texts...)
		for _, b := range states {
			both := textsIn(trieNodes(t, a), trieNodes(t, b))
			wantPruned(t, list, []string{root, trieRoot(t, b)}, both...)
			wantPruned(t, list, []string{root, empty, trieRoot(t, b), root}, both...)
		}
		kept, _ := impl.Pruned(list, []string{root})
		wantPairsAt(t, kept, root, a)
		for _, b := range states {
			if !slices.Equal(a, b) && trieRoot(t, b) != impl.EmptyRoot() {
				wantNoPairs(t, "another root", kept, trieRoot(t, b))
			}
		}
	}
	var roots, texts []string
	for _, a := range states {
		roots, texts = append(roots, trieRoot(t, a)), append(texts, textsIn(trieNodes(t, a))...)
	}
	wantPruned(t, list, roots, texts...)
	wantPruned(t, list, roots, textsIn(list)...)
}

func TestPrunedAtItsLimits(t *testing.T) {
	texts := leafTexts(0, 40)
	list := storeOf(texts...)
	var roots []string
	for _, text := range texts {
		roots = append(roots, librarySum(text))
	}
	for _, n := range []int{1, 29, 30} {
		wantPruned(t, list, roots[:n], texts[:n]...)
		wantPruned(t, list, slices.Repeat(roots[:1], n), texts[0])
		wantPruned(t, list, slices.Repeat([]string{impl.EmptyRoot()}, n))
	}
	for _, n := range []int{31, 32, 40} {
		wantNotPruned(t, "31 roots", list, roots[:n]...)
		wantNotPruned(t, "31 roots", list, slices.Repeat(roots[:1], n)...)
		wantNotPruned(t, "31 roots", list, slices.Repeat([]string{impl.EmptyRoot()}, n)...)
		wantNotPruned(t, "31 roots", nil, slices.Repeat([]string{impl.EmptyRoot()}, n)...)
	}
	for place := range 5 {
		for _, wrong := range []string{hash(1), "", "x", roots[0][:31], roots[0] + "x"} {
			wantNotPruned(t, "a root that is not there", list, changedAt(roots[:5], place, wrong)...)
			wantNotPruned(t, "a root that is not there", list, changedAt(slices.Repeat(roots[:1], 5), place, wrong)...)
		}
	}
	whole, states := grownStore(t)
	for i := range whole {
		for _, pairs := range states {
			reaches := slices.Contains(textsIn(trieNodes(t, pairs)), whole[i].Text)
			some := slices.Delete(slices.Clone(whole), i, i+1)
			if root := trieRoot(t, pairs); reaches {
				wantNotPruned(t, "a node taken out", some, root)
				wantNotPruned(t, "a node taken out", some, impl.EmptyRoot(), root)
			} else {
				wantPruned(t, some, []string{root}, textsIn(trieNodes(t, pairs))...)
			}
		}
	}
}

func TestPrunedOfWhatNoPairsHave(t *testing.T) {
	leaf := leafItem(t, "\x01", "1")
	inner, outer := longItem(t, "\x06", leaf), longItem(t, "\x07\x08", longItem(t, "\x06", leaf))
	list := storeOf(append(leafTexts(0, 5), leaf, inner, outer)...)
	wantPruned(t, list, []string{librarySum(outer)}, outer, inner, leaf)
	wantPruned(t, list, []string{librarySum(inner)}, inner, leaf)
	wantPruned(t, list, []string{librarySum(leaf), librarySum(inner)}, inner, leaf)
	wantPruned(t, list, []string{librarySum(inner), librarySum(leaf), librarySum(leafTexts(3, 1)[0])}, inner, leaf, leafTexts(3, 1)[0])
}
