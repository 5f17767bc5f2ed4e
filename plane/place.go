package plane

import (
	"sherd/api"
	"sherd/rat"
)

// Put returns what p leads a to.
func Put(p api.Place, a api.Vec) api.Vec { return mover(p)(a) }

// Compose returns the placement that leads a vector to what p leads it to after q.
func Compose(p, q api.Place) api.Place {
	// The vector of a placement is what it leads (0, 0) to.
	return api.Place{Turn: After(p.Turn, q.Turn), At: mover(p)(q.At)}
}

// Inverse returns the placement that undoes p.
func Inverse(p api.Place) api.Place {
	back := Back(p.Turn)
	return api.Place{Turn: back, At: Rotate(back, Scale(p.At, rat.Of(-1, 1)))}
}

// mover returns how p moves a vector.
func mover(p api.Place) func(api.Vec) api.Vec {
	return func(a api.Vec) api.Vec { return Add(Rotate(p.Turn, a), p.At) }
}
