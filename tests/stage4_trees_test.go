package tests

import (
	"slices"
	"strings"
	"testing"

	"loop.example/g01174/impl"
)

// nodesOfMap returns all nodes of a map.
func nodesOfMap(t *testing.T, list []impl.Entry) []impl.MapNode {
	t.Helper()
	nodes, code := impl.NodesOfMap(list)
	same(t, "code of NodesOfMap", code, impl.OK)
	return nodes
}

func TestPriorities(t *testing.T) {
	for _, list := range mapsTried(421) {
		for _, name := range namesTried(list) {
			key, code := impl.PriorityOf(name)
			same(t, "code", code, impl.OK)
			same(t, "priority", key, plainPriority(name))
		}
	}
	for n := range 60 {
		_, code := impl.PriorityOf(strings.Repeat("\x00", n))
		same(t, numbered("bytes of the name", n), code == impl.OK, n >= 1 && n <= 24)
	}
	_, code := impl.PriorityOf(strings.Repeat("a", impl.MaxData+1))
	same(t, "over MaxData", code, impl.ErrInvalid)
}

func TestKnownPriorities(t *testing.T) {
	// Found by another program that follows the document.
	for name, text := range map[string]string{
		"a":                        "749f320a41ba4aea84e87d5c5c1e96e2c9cdfc203cb988c190607b8a716f8ecb",
		"b":                        "6cb5ee151bdf0d2fc1bb7155a57ae251dccaf443203a574bfcccb75b9398e0c4",
		"\x00":                     "8eeb39776c5f83e97e449c04526167ccfb1fdf6c7b6b2475ceecfcd83ffa2412",
		strings.Repeat("\xff", 24): "20e06c0f4a5c1601b1c3e2b99d30cfdec85de32a3011a3e63c214a3d2a31db67",
	} {
		key, _ := impl.PriorityOf(name)
		same(t, "priority of "+name, impl.KeyText(key), text)
	}
}

func TestKnownKeysOfMaps(t *testing.T) {
	// Found by another program that follows the document.
	for n, text := range map[int]string{
		0:  "a70127fe93ea479f632f2be6d3143615ab35300d3e778a798e623e57acbfc0cd",
		1:  "00d3a59d955100370557f0f515fdbb28b63395aedaf57c5abab22a9356085853",
		2:  "b3a3fbf3c04e8792fe9a9111c744d57eb16c79a31b9e0d518fccfeeebd12389c",
		3:  "1bc717271f85d690bf6934abebce2a45edca4c042f6a2cb370b4d60d67a51e3e",
		5:  "aff29aafd54ff8bd7a19b1714abb0c5a501b09712acfefc4f9529a692b2fd5a2",
		8:  "3f7ad9d9da036be47828a29bd1efb75813092c0ff498de4d9dc3eb0c7566b884",
		33: "4f13b2fcbadb3b210a1c4b7e268ddbfa92568a95c53a3e86c9b3452fff2469a3",
		63: "b9dffd725a614cbd940d0d62ec93aba6f187d25160cc6ce3a500f457dad5b9b4",
		64: "77aa61c55c261cb6e15f36b37a193f9ced451e7ee3fe9a096e5a4753fb22daef",
	} {
		same(t, numbered("entries", n), impl.KeyText(mapKey(t, countedMap(n))), text)
	}
	same(t, "EmptyMapKey", impl.KeyText(impl.EmptyMapKey()), "a70127fe93ea479f632f2be6d3143615ab35300d3e778a798e623e57acbfc0cd")
	same(t, "a", impl.KeyText(mapKey(t, entries("a", "1"))), "34c216f3445cecb8a71ebdbbdd6e25694f497d4926d1c974bbe6e96a96ba974f")
	same(t, "a and b", impl.KeyText(mapKey(t, entries("a", "", "b", "2"))), "2e44d37ee50cb700190ad384886a03e5d0fbd80ef10bfe035182d8996f91e378")
	key, _ := impl.MapNodeKey(impl.MapNode{Entry: impl.Entry{Name: "a", Value: "1"}})
	same(t, "a node", impl.KeyText(key), "1c792ce3f93b6b07447765b5de04b1ec7beb845d40c5d7f088edde3ff0d49834")
}

func TestAKnownTree(t *testing.T) {
	// Found by another program that follows the document.
	list := countedMap(12)
	var names []string
	for _, n := range nodesOfMap(t, list) {
		names = append(names, n.Entry.Name)
	}
	same(t, "order of the nodes", strings.Join(names, " "), "n11 n06 n01 n00 n03 n02 n05 n04 n09 n07 n08 n10")
	for i, want := range []int64{4, 3, 5, 4, 6, 5, 2, 4, 5, 3, 4, 1} {
		depth, code := impl.DepthOfName(list, list[i].Name)
		same(t, "code", code, impl.OK)
		same(t, numbered("depth", i), depth, want)
	}
}

func TestBytesOfNodes(t *testing.T) {
	r := chance(422)
	for name := 1; name <= impl.MaxName; name++ {
		for _, value := range []int{0, 1, 2, 31, 32, impl.MaxValue - 1, impl.MaxValue} {
			n := impl.MapNode{Left: someKey(r), Right: someKey(r), Entry: impl.Entry{Name: string(someBytes(r, name)), Value: string(someBytes(r, value))}}
			data, code := impl.MapNodeBytes(n)
			same(t, "code", code, impl.OK)
			sameBytes(t, "bytes", data, plainNodeBytes(n))
			same(t, "number of bytes", len(data), 65+name+value)
			again, code := impl.ReadMapNode(data)
			same(t, "code of the node again", code, impl.OK)
			same(t, "the node again", again, n)
			key, code := impl.MapNodeKey(n)
			same(t, "code of the key", code, impl.OK)
			same(t, "key", key, plainHash(5, data))
		}
	}
}

func TestNodesAreRefused(t *testing.T) {
	for _, e := range wrongEntries() {
		n := impl.MapNode{Left: impl.Key{1}, Right: impl.Key{2}, Entry: e}
		isNone[byte](t, "MapNodeBytes", impl.ErrInvalid)(impl.MapNodeBytes(n))
		isCode[impl.Key](t, "MapNodeKey", impl.ErrInvalid)(impl.MapNodeKey(n))
	}
}

func TestBytesOfAllLengthsAreRead(t *testing.T) {
	for name := range 256 {
		for length := range 170 {
			data := make([]byte, length)
			for i := range data {
				data[i] = byte(7 * i)
			}
			if length > 64 {
				data[64] = byte(name)
			}
			got, code := impl.ReadMapNode(data)
			end := 65 + name
			if length <= 64 || name < 1 || name > 24 || length < end || length > end+64 {
				isCode[impl.MapNode](t, numbered("no node", name, length), impl.ErrSyntax)(got, code)
				continue
			}
			entry := impl.Entry{Name: string(data[65:end]), Value: string(data[end:])}
			same(t, numbered("code", name, length), code, impl.OK)
			same(t, numbered("node", name, length), got, impl.MapNode{Left: impl.Key(data[:32]), Right: impl.Key(data[32:64]), Entry: entry})
		}
	}
}

func TestNodesThatAreCutOff(t *testing.T) {
	n := impl.MapNode{Left: impl.Key{1}, Right: impl.Key{2}, Entry: impl.Entry{Name: "name", Value: "value"}}
	data := plainNodeBytes(n)
	for _, length := range []int{0, 1, 31, 32, 33, 63, 64, 65, 66, 68} {
		isCode[impl.MapNode](t, numbered("cut off", length), impl.ErrSyntax)(impl.ReadMapNode(data[:length:length]))
		isCode[impl.MapNode](t, numbered("cut off, with the rest behind it", length), impl.ErrSyntax)(impl.ReadMapNode(data[:length]))
	}
	for length := 69; length <= len(data); length++ {
		got, code := impl.ReadMapNode(data[:length])
		same(t, "code", code, impl.OK)
		same(t, "value", got.Entry, impl.Entry{Name: "name", Value: "value"[:length-69]})
	}
	isCode[impl.MapNode](t, "nil", impl.ErrSyntax)(impl.ReadMapNode(nil))
}

// checkTree fails the test if nodes are not a tree with a key, with the names between two, no one of a greater priority
// than that of the name above; it returns the nodes that are left behind the tree, and the entries of it.
func checkTree(t *testing.T, key impl.Key, nodes []impl.MapNode, most impl.Key) ([]impl.MapNode, []impl.Entry) {
	t.Helper()
	if key == impl.EmptyMapKey() {
		return nodes, nil
	}
	n := nodes[0]
	own, code := impl.MapNodeKey(n)
	same(t, "code of the node", code, impl.OK)
	same(t, "key of the node", own, key)
	priority, _ := impl.PriorityOf(n.Entry.Name)
	if impl.CompareKeys(priority, most) > 0 {
		t.Errorf("%s lies below a name of a lower priority", n.Entry.Name)
	}
	rest, left := checkTree(t, n.Left, nodes[1:], priority)
	rest, right := checkTree(t, n.Right, rest, priority)
	return rest, slices.Concat(left, []impl.Entry{n.Entry}, right)
}

func TestTreesOfMaps(t *testing.T) {
	for _, list := range mapsTried(423) {
		nodes := nodesOfMap(t, list)
		sameList(t, "nodes", nodes, growMap(list).nodes())
		same(t, "key", mapKey(t, list), plainMapKey(list))
		same(t, "number of nodes", len(nodes), len(list))
		most := impl.Key(slices.Repeat([]byte{255}, 32))
		rest, all := checkTree(t, mapKey(t, list), nodes, most)
		same(t, "nodes left", len(rest), 0)
		sameList(t, "entries from the left to the right", all, list)
	}
}

func TestDepthsOfNames(t *testing.T) {
	for _, list := range mapsTried(424) {
		tree, values := growMap(list), valuesOf(list)
		for _, name := range namesTried(list) {
			if _, there := values[name]; !there {
				isCode[int64](t, "depth of no name there", impl.ErrNotFound)(impl.DepthOfName(list, name))
				continue
			}
			depth, code := impl.DepthOfName(list, name)
			same(t, "code", code, impl.OK)
			same(t, "depth", depth, int64(len(tree.path(name))))
		}
		if len(list) > 0 {
			depth, _ := impl.DepthOfName(list, nodesOfMap(t, list)[0].Entry.Name)
			same(t, "depth of the top", depth, 1)
		}
	}
}

func TestKeysOfNoAndOneEntry(t *testing.T) {
	empty, code := impl.HashOf(5, nil)
	same(t, "code", code, impl.OK)
	same(t, "no entries", mapKey(t, nil), empty)
	same(t, "no entries, not nil", mapKey(t, []impl.Entry{}), empty)
	same(t, "EmptyMapKey", impl.EmptyMapKey(), empty)
	same(t, "nodes of no entries", len(nodesOfMap(t, nil)), 0)
	one := impl.MapNode{Left: empty, Right: empty, Entry: impl.Entry{Name: "x", Value: "y"}}
	sameList(t, "nodes of one entry", nodesOfMap(t, entries("x", "y")), []impl.MapNode{one})
	key, _ := impl.MapNodeKey(one)
	same(t, "one entry", mapKey(t, entries("x", "y")), key)
}
