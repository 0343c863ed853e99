package impl

import "testing"

// Reading panics with faults only, as far as anybody knows. So these tests show with other panics that none of them leaves
// the functions that read.

func TestFaultsAreCaught(t *testing.T) {
	isErrorOf(t, "nothing wrong", attempt(func() {}), OK)
	isErrorOf(t, "torn", attempt(func() { panic(torn{}) }), ErrSyntax)
	isErrorOf(t, "unproved", attempt(func() { panic(unproved{}) }), ErrProof)
	isErrorOf(t, "what holds", attempt(func() { insist(true, unproved{}) }), OK)
	isErrorOf(t, "what does not hold", attempt(func() { insist(false, unproved{}) }), ErrProof)
}

func TestOtherPanicsAreCaught(t *testing.T) {
	isErrorOf(t, "a text", attempt(func() { panic("text") }), ErrSyntax)
	isErrorOf(t, "an error", attempt(func() { panic(refusal{ErrProof}) }), ErrSyntax)
	isErrorOf(t, "a place that is not there", attempt(func() { _ = (&cursor{}).data[len(packMark)] }), ErrSyntax)
}
