package plane

import (
	"sherd/api"
	"sherd/rat"
)

// Still returns the turn that leads each vector to itself.
func Still() api.Turn { return turnTo(Of(1, 0)) }

// Valid reports whether t is valid: whether its numbers are, and the vector (C, S) has the length 1.
func Valid(t api.Turn) bool {
	// Nothing may be calculated with numbers that are not valid.
	return rat.Valid(t.C) && rat.Valid(t.S) && rat.Same(Dot(end(t), end(t)), rat.Of(1, 1))
}

// SameTurn reports whether t and u are equal.
func SameTurn(t, u api.Turn) bool { return Same(end(t), end(u)) }

// Rotate returns what t leads a to.
func Rotate(t api.Turn, a api.Vec) api.Vec {
	return api.Vec{
		X: sum(pair{t.C, a.X}, pair{rat.Neg(t.S), a.Y}),
		Y: sum(pair{t.S, a.X}, pair{t.C, a.Y}),
	}
}

// After returns the turn that leads a vector to what t leads it to after u.
func After(t, u api.Turn) api.Turn { return turnTo(Rotate(t, end(u))) }

// Back returns the turn that undoes t.
func Back(t api.Turn) api.Turn { return api.Turn{C: t.C, S: rat.Neg(t.S)} }

// Align returns the turn that leads a to b.
func Align(a, b api.Vec) (api.Turn, api.Errno) {
	square, other := Dot(a, a), Dot(b, b)
	switch {
	case rat.Sign(square) == 0 || rat.Sign(other) == 0:
		return api.Turn{}, api.ErrArg
	case !rat.Same(square, other):
		return api.Turn{}, api.ErrDiffer
	}
	// Both products are the cosine and the sine times both lengths, which are equal.
	return api.Turn{C: rat.Div(Dot(a, b), square), S: rat.Div(Cross(a, b), square)}, api.OK
}

// end returns what t leads (1, 0) to.
func end(t api.Turn) api.Vec { return api.Vec{X: t.C, Y: t.S} }

// turnTo returns the turn that leads (1, 0) to a.
func turnTo(a api.Vec) api.Turn { return api.Turn{C: a.X, S: a.Y} }
