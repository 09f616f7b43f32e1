// Package rules has only tests: of what holds of all layers, the promises P1 to P5, and of the faces that the chapters list.
package rules
