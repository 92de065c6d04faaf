// Package kind is layer 1: see shared/doc/01-kind.md.
package kind

import "bedrock/api"

// traits is a row of bits, one for each thing that a kind may be.
type traits uint8

const (
	clearBit traits = 1 << iota
	movableBit
	yieldsBit
	soaksBit
	fallsBit
	burnsBit
)

// row is what there is to know of a kind: its levels are those from least to most.
type row struct {
	name        string
	least, most uint8
	traits      traits
}

const count = 15

const fireLamp = 10

var rows = [count]row{
	api.Air:     {name: "air", traits: clearBit | yieldsBit | soaksBit},
	api.Bedrock: {name: "bedrock"},
	api.Stone:   {name: "stone", traits: movableBit},
	api.Soil:    {name: "soil", traits: movableBit},
	api.Sand:    {name: "sand", traits: movableBit | fallsBit},
	api.Gravel:  {name: "gravel", traits: movableBit | fallsBit},
	api.Wood:    {name: "wood", traits: movableBit | burnsBit},
	api.Leaves:  {name: "leaves", traits: movableBit | burnsBit},
	api.Ash:     {name: "ash", traits: movableBit | fallsBit},
	api.Glass:   {name: "glass", traits: clearBit | movableBit},
	api.Mover:   {name: "mover"},
	api.Torch:   {name: "torch", least: 1, most: api.LightMax, traits: clearBit | yieldsBit | soaksBit},
	api.Plant:   {name: "plant", most: 3, traits: clearBit | yieldsBit | soaksBit | burnsBit},
	api.Water:   {name: "water", most: 7, traits: clearBit | yieldsBit},
	api.Fire:    {name: "fire", most: 1, traits: clearBit | yieldsBit | soaksBit},
}

// Name tells a kind's name: the empty text of a number that is no kind's.
func Name(k uint8) string {
	if k >= count {
		return ""
	}
	return rows[k].name
}

// Of tells the kind that has just this name, and whether there is one.
func Of(name string) (uint8, bool) {
	for k := uint8(0); k < count; k++ {
		if rows[k].name == name {
			return k, true
		}
	}
	return 0, false
}

// Clear tells whether light goes through the kind.
func Clear(k uint8) bool { return has(k, clearBit) }

// Movable tells whether the kind is counted, and can be pushed.
func Movable(k uint8) bool { return has(k, movableBit) }

// Yields tells whether the kind gives its place to what falls or is pushed.
func Yields(k uint8) bool { return has(k, yieldsBit) }

// Soaks tells whether the kind gives its place to water.
func Soaks(k uint8) bool { return has(k, soaksBit) }

// Falls tells whether the kind falls.
func Falls(k uint8) bool { return has(k, fallsBit) }

// Burns tells whether the kind burns.
func Burns(k uint8) bool { return has(k, burnsBit) }

// Levels tells the greatest of the kind's levels: 0 of a number that is no kind's.
func Levels(k uint8) uint8 {
	if k >= count {
		return 0
	}
	return rows[k].most
}

// May tells whether the cell may be: its kind is one of the table, its level one of that kind's.
func May(c api.Cell) bool {
	return c.Kind < count && rows[c.Kind].least <= c.Level && c.Level <= rows[c.Kind].most
}

// Lamp tells the cell's own light: 0 of a cell that has none, or may not be.
func Lamp(c api.Cell) uint8 {
	if !May(c) {
		return 0
	}
	switch c.Kind {
	case api.Torch:
		return c.Level
	case api.Fire:
		return fireLamp
	}
	return 0
}

func has(k uint8, t traits) bool {
	return k < count && rows[k].traits&t != 0
}
