package simplex

import (
	"math/rand/v2"
	"testing"

	"sherd/api"
	"sherd/rat"
)

// P1: where all constants are 0, no exchange makes the goal grow, and only the order of the names keeps the way from going round in a circle.
func TestWaysEnd(t *testing.T) {
	r := rand.New(rand.NewPCG(10, 17))
	for k := range 4000 {
		rows, columns := 5+k%2, 5+k%4
		var a table
		for i := range rows + 1 {
			var row []api.Rat
			for range columns {
				row = append(row, rat.Of(r.IntN(13)-6, 1))
			}
			a.rows, a.own = append(a.rows, append(row, api.Rat{})), append(a.own, rat.Of(1, 1))
			if i < rows {
				a.left = append(a.left, columns+i)
			}
		}
		for j := range columns {
			a.top = append(a.top, j)
		}
		for n := 0; ; n++ {
			i, j, _ := a.next()
			if i < 0 {
				break
			}
			if n == 200 {
				t.Fatal("a way does not end:", k)
			}
			a.exchange(i, j)
		}
	}
}
