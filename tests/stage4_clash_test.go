package tests

import (
	"slices"
	"testing"

	"loop.example/g01174/impl"
)

// Nobody knows two unlike nodes with one key: those tests that need some are in impl/l04_clash_test.go.

// isNoClashOfNodes fails the test if a function does not return two nodes without anything and an error.
func isNoClashOfNodes(t *testing.T, name string, want int64) func(impl.MapNode, impl.MapNode, int64) {
	return func(first, second impl.MapNode, code int64) {
		t.Helper()
		same(t, name+": code", code, want)
		same(t, name+": first", first, impl.MapNode{})
		same(t, name+": second", second, impl.MapNode{})
	}
}

func TestPathsOfMapsShowNoClash(t *testing.T) {
	other := growMap(entries("a", "1")).node
	for _, list := range mapsTried(461) {
		tree := growMap(list)
		names := namesTried(list)
		for i := 0; i < len(names); i += 1 + len(names)/10 {
			name := names[i]
			path := proveName(t, list, name)
			isNoClashOfNodes(t, "its path", impl.ErrNotFound)(impl.ClashOfName(list, name, path))
			for _, wrong := range wrongNodes(path, other) {
				if !slices.Equal(wrong, path) {
					isNoClashOfNodes(t, "another path", impl.ErrState)(impl.ClashOfName(list, name, wrong))
				}
			}
			for j := 0; j < len(names); j += 1 + len(names)/6 {
				want := map[bool]int64{true: impl.ErrNotFound, false: impl.ErrState}[slices.Equal(path, tree.path(names[j]))]
				isNoClashOfNodes(t, "a path to another name", want)(impl.ClashOfName(list, names[j], path))
			}
		}
	}
}

func TestPathsOfOtherMapsShowNoClash(t *testing.T) {
	for _, p := range pairsTried(462) {
		a, b := p[0], p[1]
		want := map[bool]int64{true: impl.ErrNotFound, false: impl.ErrState}[slices.Equal(a, b)]
		for _, name := range []string{"a", "n07", "\xff"} {
			isNoClashOfNodes(t, "the path in another map", want)(impl.ClashOfName(a, name, proveName(t, b, name)))
		}
	}
	isNoClashOfNodes(t, "no nodes of no entries", impl.ErrNotFound)(impl.ClashOfName(nil, "a", nil))
	isNoClashOfNodes(t, "no nodes of a map", impl.ErrState)(impl.ClashOfName(entries("a", "1"), "a", nil))
	isNoClashOfNodes(t, "no nodes of a map without the name", impl.ErrState)(impl.ClashOfName(entries("a", "1"), "b", nil))
}

func TestPathsAreRefusedForClashes(t *testing.T) {
	list := entries("a", "1", "b", "2")
	path := proveName(t, list, "b")
	long := chainOf(impl.MaxEntries + 1)
	isNoClashOfNodes(t, "too many nodes", impl.ErrState)(impl.ClashOfName(list, "b", long))
	isNoClashOfNodes(t, "too many nodes, those of the path first", impl.ErrState)(impl.ClashOfName(list, "b", append(slices.Clone(path), long...)))
	for _, wrong := range wrongMaps() {
		isNoClashOfNodes(t, "no map", impl.ErrInvalid)(impl.ClashOfName(wrong, "b", path))
		isNoClashOfNodes(t, "no map, and too many nodes", impl.ErrInvalid)(impl.ClashOfName(wrong, "b", long))
		isNoClashOfNodes(t, "no map, and no nodes", impl.ErrInvalid)(impl.ClashOfName(wrong, "b", nil))
	}
	for _, name := range wrongNames() {
		isNoClashOfNodes(t, "no name", impl.ErrInvalid)(impl.ClashOfName(list, name, path))
		isNoClashOfNodes(t, "no name, and too many nodes", impl.ErrInvalid)(impl.ClashOfName(list, name, long))
		isNoClashOfNodes(t, "no name of no entries", impl.ErrInvalid)(impl.ClashOfName(nil, name, nil))
	}
	for _, e := range wrongEntries() {
		for _, nodes := range [][]impl.MapNode{path, long, nil} {
			for _, i := range []int{0, len(nodes)} {
				wrong := with(nodes, i, impl.MapNode{Entry: e})
				isNoClashOfNodes(t, "a wrong node", impl.ErrInvalid)(impl.ClashOfName(list, "b", wrong))
			}
		}
	}
}
