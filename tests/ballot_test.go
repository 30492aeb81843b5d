package tests

import (
	"testing"

	"loop.example/wharfquorum/impl"
)

// nextWanted looks through the ballots one by one.
func nextWanted(above int, number int, of int) int {
	for b := above + 1; b <= impl.RecMaxBallot; b++ {
		if b%of == number%of {
			return b
		}
	}
	return 0
}

func TestNextBallotOfAll(t *testing.T) {
	for of := 1; of <= impl.RecMaxRecorders; of++ {
		owner := make([]int, impl.RecMaxBallot+1)
		for number := 1; number <= of; number++ {
			for above := 0; above <= impl.RecMaxBallot; above++ {
				got := impl.RecNextBallot(above, number, of)
				if got != nextWanted(above, number, of) {
					t.Fatalf("above %d, number %d of %d: %d", above, number, of, got)
				}
				if got == 0 {
					continue
				}
				if got <= above || got > impl.RecMaxBallot {
					t.Fatalf("above %d, number %d of %d: %d is not a ballot above it", above, number, of, got)
				}
				if owner[got] != 0 && owner[got] != number {
					t.Fatalf("of %d: both %d and %d get ballot %d", of, owner[got], number, got)
				}
				owner[got] = number
			}
		}
	}
}

func TestNextBallotAtTheEdges(t *testing.T) {
	most, far := impl.RecMaxBallot, 1<<63-1
	for _, c := range []struct{ above, number, of, want int }{
		{0, 1, 1, 1}, {0, 1, 5, 1}, {0, 5, 5, 5}, {0, 2, 2, 2}, {0, 1, 2, 1}, {1, 1, 1, 2}, {4, 5, 5, 5}, {5, 5, 5, 10}, {6, 1, 5, 11}, {5, 1, 5, 6},
		{-1, 1, 1, 0}, {-1, 1, 5, 0}, {-1, 2, 3, 0}, {-1, 5, 5, 0}, {-2, 1, 5, 0}, {-far - 1, 1, 1, 0}, {-far, 2, 3, 0},
		{most, 1, 1, 0}, {most, 5, 5, 0}, {most, 1, 3, 0}, {most, 2, 3, 0}, {most, 3, 3, 0}, {most + 1, 1, 1, 0}, {most + 1, 2, 3, 0}, {far, 1, 1, 0}, {far, 5, 5, 0},
		{most - 1, 1, 1, most}, {most - 1, 2, 2, most}, {most - 1, 1, 3, most}, {most - 1, 4, 4, most}, {most - 1, 5, 5, most},
		{most - 3, 1, 3, most}, {most - 4, 4, 4, most}, {most - 5, 5, 5, most}, {most - 2, 2, 2, most}, {most - 2, 1, 2, most - 1},
		{most - 1, 1, 2, 0}, {most - 1, 2, 3, 0}, {most - 2, 2, 3, 0}, {most - 1, 3, 3, 0}, {most - 1, 1, 4, 0}, {most - 3, 1, 4, 0}, {most - 1, 1, 5, 0}, {most - 4, 1, 5, 0}, {most - 5, 1, 5, most - 4},
		{0, 0, 3, 0}, {0, -1, 3, 0}, {0, 4, 3, 0}, {0, 0, 1, 0}, {0, 2, 1, 0}, {0, 0, 5, 0}, {0, 6, 5, 0}, {7, far, 3, 0}, {7, -far - 1, 3, 0},
		{0, 0, 0, 0}, {0, 1, 0, 0}, {0, 1, -1, 0}, {0, -1, -1, 0}, {0, 1, 6, 0}, {0, 6, 6, 0}, {7, 1, far, 0}, {7, far, far, 0}, {7, 1, -far - 1, 0},
	} {
		if got := impl.RecNextBallot(c.above, c.number, c.of); got != c.want {
			t.Errorf("above %d, number %d of %d: %d, and not %d", c.above, c.number, c.of, got, c.want)
		}
	}
}
