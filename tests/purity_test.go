package tests

import (
	"fmt"
	"slices"
	"sync"
	"testing"
)

// resultsOf makes the calls in the order of their indices, or backwards, and keeps the results by index.
// A call that panics fails the test where it stands.
func resultsOf(calls []func() string, backwards bool) []string {
	results := make([]string, len(calls))
	for i := range calls {
		if backwards {
			i = len(calls) - 1 - i
		}
		results[i] = calls[i]()
	}
	return results
}

// checkPure makes calls again in another order and at the same time, and calls with equal arguments in other memory: only the arguments may matter.
func checkPure(t *testing.T, calls []func() string, equalCalls ...[]func() string) {
	t.Helper()
	want := resultsOf(calls, false)
	rounds := make([][]string, 4)
	var group sync.WaitGroup
	for i := range rounds {
		group.Go(func() { rounds[i] = resultsOf(calls, i%2 == 0) })
	}
	group.Wait()
	rounds = append(rounds, resultsOf(calls, true))
	for i, equal := range equalCalls {
		rounds = append(rounds, resultsOf(equal, i%2 == 1))
	}
	for _, got := range rounds {
		for i := range want {
			if got[i] != want[i] {
				t.Fatalf("call %d returned %q and then %q", i, want[i], got[i])
			}
		}
	}
}

// piece is a slice of a result: it can be written over with its unused capacity, restored, and shown.
type piece struct {
	write, restore func()
	show           func() string
}

func pieceOf[T any](slice []T, junk T) piece {
	whole := slice[:cap(slice)]
	saved := slices.Clone(whole)
	return piece{
		write: func() {
			for i := range whole {
				whole[i] = junk
			}
		},
		restore: func() { copy(whole, saved) },
		show:    func() string { return fmt.Sprint(slice) },
	}
}

// checkPieces writes over each slice of a result, with its unused capacity: no other slice may change, and no argument, as a function tells.
func checkPieces(t *testing.T, what string, pieces []piece, unchanged func() bool) {
	t.Helper()
	var before []string
	for _, p := range pieces {
		before = append(before, p.show())
	}
	for i, p := range pieces {
		p.write()
		if !unchanged() {
			t.Fatalf("%s: slice %d shares memory with an argument", what, i)
		}
		for j, other := range pieces {
			if j != i && other.show() != before[j] {
				t.Fatalf("%s: slices %d and %d share memory", what, i, j)
			}
		}
		p.restore()
	}
}
