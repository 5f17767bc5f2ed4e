package polygon

import (
	"sherd/api"
	"sherd/plane"
	"sherd/rat"
)

// Area returns half of the sum of the cross products of each corner and the next one.
func Area(l []api.Vec) api.Rat { return rat.Div(twice(l), rat.Of(2, 1)) }

// Center returns the centroid; (0, 0), if the area is 0.
func Center(l []api.Vec) api.Vec {
	weighted := api.Vec{}
	for _, s := range sides(l) {
		weighted = plane.Add(weighted, plane.Scale(plane.Add(s.from, s.to), s.cross()))
	}
	// What is divided by 0 is 0.
	return plane.Scale(weighted, rat.Div(rat.Of(1, 3), twice(l)))
}

// twice returns the sum of the cross products of each corner and the next one, which is twice the area.
func twice(l []api.Vec) api.Rat {
	total := api.Rat{}
	for _, s := range sides(l) {
		total = rat.Add(total, s.cross())
	}
	return total
}

// cross returns the cross product of both ends.
func (s segment) cross() api.Rat { return plane.Cross(s.from, s.to) }
