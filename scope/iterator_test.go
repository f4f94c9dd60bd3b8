package scope

import (
	"testing"

	"accesscontrol/api"
)

// Both iterators stop where the loop that ranges over them is left, also within blocks of if.
func TestIteratorsStop(t *testing.T) {
	a := api.Stmt{Kind: api.StmtType, Name: "a", Aliases: []string{"b"}, List: []string{"x", "y"}}
	inner := api.Stmt{Kind: api.StmtIf, Then: []api.Stmt{a, a}, Else: []api.Stmt{a}}
	l := []api.Stmt{a, {Kind: api.StmtIf, Then: []api.Stmt{a, inner, a}, Else: []api.Stmt{inner, a}}, a}
	for most := range 20 {
		seen := 0
		for range used(l) {
			seen++
			if seen > most {
				break
			}
		}
		if seen != most+1 {
			t.Errorf("used: got %d symbols of %d", seen, most+1)
		}
	}
	seen := 0
	for range written(l) {
		seen++
		if seen == 3 {
			break
		}
	}
	if seen != 3 {
		t.Errorf("written: got %d symbols", seen)
	}
}
