package free_test

import (
	"slices"
	"testing"

	"distaff/free"
)

// The section Examples: (lambda (x) (set! x y)): Free is y, Assigned is x.
func TestExamples(t *testing.T) {
	c := last(t, "(define y 1) (lambda (x) (set! x y))")
	if got := free.Free(c); !slices.Equal(got, []string{"y"}) {
		t.Errorf("Free is %q", got)
	}
	if got := free.Assigned(c); !slices.Equal(got, []string{"x"}) {
		t.Errorf("Assigned is %q", got)
	}
}
