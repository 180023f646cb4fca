package impl

import "testing"

// What the function says of each op, and what its row of opRows says, is the same.
func TestOpRows(t *testing.T) {
	said := rowsOfOps()
	for op := range opRows {
		if opRows[op] != said[op] {
			t.Errorf("op %d: the row is %v, the function says %v", op, opRows[op], said[op])
		}
	}
}
